/- The model's reader: l9Byte, l9Word, l9Text. -/
import Derived.Test.YtgdhhhibkhfdlaaReadP
import Derived.Test.YtgdhhhibkhfdlaaText
import Derived.Test.YtgdhhhibkhfdlaaRepMore
import Derived.Deep.QuietTactic
import Derived.BigQuiet
import Derived.IntWalk
namespace Go.Proofs.Ytgdhhhibkhfdlaa
open Go.RowKit
set_option linter.unusedVariables false

/-- The model's reader in block g over b: what is ahead, and whether something was missing. -/
def RdS (w : World) (g : Nat) (b : List UInt8) (s : St) : Prop := ∃ (A : Option Addr) (c p : Nat), w.heap[g]? = some (.cells #[.slice A b.length c, .int .i64 p, .bool s.2] 141 (0, 0)) ∧ (b.length ≤ c ∧ b.length ≤ 2000000 ∧ p ≤ b.length ∧ s.1 = b.drop p) ∧ Reads w g 1 A b.length (bys b)
theorem RdS.lt {w : World} {g : Nat} {b : List UInt8} {s : St} (h : RdS w g b s) : g < w.heap.size := by
  obtain ⟨A, c, p, h1, _⟩ := h
  exact (Array.getElem?_eq_some_iff.1 h1).1
theorem RdS.only {w w' : World} {g : Nat} {b : List UInt8} {s : St} {fp : List Nat} (h : RdS w g b s) (ho : Rep.Only w w' fp) (hf : ∀ a, a ∈ fp → g < a) : RdS w' g b s := by
  have hlt := h.lt
  obtain ⟨A, c, p, h1, h2, h3⟩ := h
  exact ⟨A, c, p, (ho.block g hlt (fun e => by have := hf g e; omega)).trans h1, h2, h3.keep fun q hq => World.cell?_of_block (ho.block q.block (by omega) (fun e => by have := hf _ e; omega))⟩
theorem RdS.below {w w' : World} {g : Nat} {b : List UInt8} {s : St} (h : RdS w g b s) (hb : Below w.heap.size w w') : RdS w' g b s := h.only (Rep.only_of_below hb) (fun a ha => by cases ha)
structure StTo (w : World) (g : Nat) (b : List UInt8) (s : St) (w' : World) : Prop where
  at_ : RdS w' g b s
  only : Rep.Only w w' [g]
theorem StTo.trans {w w1 w2 : World} {g : Nat} {b : List UInt8} {s s2 : St} (h : StTo w g b s w1) (h2 : StTo w1 g b s2 w2) : StTo w g b s2 w2 := ⟨h2.at_, h.only.trans h2.only⟩
theorem StTo.later {w w1 w2 : World} {g : Nat} {b : List UInt8} {s : St} (h : StTo w g b s w1) (hb : Below w1.heap.size w1 w2) : StTo w g b s w2 := ⟨h.at_.below hb, h.only.trans ((Rep.only_of_below hb).mono (by simp))⟩

theorem set_only (w : World) (g o : Nat) (v : Value) : Rep.Only w (w.setCell ⟨g, o, none⟩ v) [g] := ⟨rfl, rfl, rfl, by simp [World.setCell], fun k hk hn => heap_setCell_other w ⟨g, o, none⟩ k _ (fun e => hn (by simp [e]))⟩
/-- The mark is set. -/
theorem rd_bad {w V : World} {g c p : Nat} {A : Option Addr} {b l : List UInt8} {z : Bool} (hw : Rep.Only w V [g]) (hb : V.heap[g]? = some (.cells #[.slice A b.length c, .int .i64 p, .bool z] 141 (0, 0))) (h : b.length ≤ c ∧ b.length ≤ 2000000 ∧ p ≤ b.length ∧ l = b.drop p) (hr : Reads V g 1 A b.length (bys b)) : StTo w g b (l, true) (V.setCell ⟨g, 2, none⟩ (.bool true)) :=
  ⟨⟨A, c, p, var_set hb 2 _, h, hr.keep fun q hq => World.cell?_of_block (heap_setCell_other V ⟨g, 2, none⟩ q.block _ (fun e => by have e2 : q.block = g := e; omega))⟩, hw.trans (set_only V g 2 _)⟩
/-- The reader goes on. -/
theorem rd_go {w V : World} {g c p n : Nat} {A : Option Addr} {b l : List UInt8} (hw : Rep.Only w V [g]) (hb : V.heap[g]? = some (.cells #[.slice A b.length c, .int .i64 p, .bool false] 141 (0, 0))) (h : b.length ≤ c ∧ b.length ≤ 2000000 ∧ n ≤ b.length ∧ l = b.drop n) (hr : Reads V g 1 A b.length (bys b)) : StTo w g b (l, false) (V.setCell ⟨g, 1, none⟩ (.int .i64 n)) :=
  ⟨⟨A, c, n, var_set hb 1 _, h, hr.keep fun q hq => World.cell?_of_block (heap_setCell_other V ⟨g, 1, none⟩ q.block _ (fun e => by have e2 : q.block = g := e; omega))⟩, hw.trans (set_only V g 1 _)⟩
theorem only_drewN (w : World) (g n : Nat) : Rep.Only w (w.drewN n) [g] := (Rep.only_of_below (belowD (Below.refl _ _) n)).mono (by simp)

set_option maxRecDepth 10000 in
set_option maxHeartbeats 4000000 in
theorem l9Byte_any (g : Nat) (b : List UInt8) (s : St) (w : World) (h : RdS w g b s) :
    Calls Try.prog 102 #[.pointer (some ⟨g, 0, none⟩)] w fun e w' => e = .returned (.int .i64 (sB s).1) ∧ StTo w g b (sB s).2 w' := by
  obtain ⟨l, z⟩ := s
  have hlt := h.lt
  obtain ⟨A, c, p, hb, ⟨hc, hn, hp, hl⟩, hr⟩ := h
  replace hl : l = b.drop p := hl
  replace hb : w.heap[g]? = some (.cells #[.slice A b.length c, .int .i64 p, .bool z] 141 (0, 0)) := hb
  have HB := Lib.hid hb
  have HR := Lib.hid hr
  have HL := Lib.hid hl
  have c0 := var_cell hb 0
  have c1 := var_cell hb 1
  have c2 := var_cell hb 2
  have f2 := var_frozen hb 2
  have f1 := var_frozen hb 1
  have hll : l.length = b.length - p := by rw [hl, List.length_drop]
  have HLL := Lib.hid hll
  clear hb hr hl hll
  cases z
  · by_cases hpl : p < b.length
    · have hE : sB (l, false) = (oct l, (l.drop 1, false)) := by unfold sB; rw [if_neg]; simp; intro e; have h9 := HLL.out; rw [e] at h9; simp at h9; omega
      rw [hE]
      clear hE
      obtain ⟨b1, off, u, hA, hbl, hu, hcell⟩ := HR.out.byte (k := p) hpl
      subst hA
      have hul := byte_lt u
      have hoct : oct l = (u.toNat : Int) := by
        unfold oct
        rw [HL.out]
        simp [List.getD, hu]
      have HO := Lib.hid hoct
      have hd : (l.drop 1) = b.drop (p + 1) := by rw [HL.out, List.drop_drop]
      have HD := Lib.hid hd
      clear hoct hd hu
      have hng : b1 ≠ g := by omega
      have hnl : ¬ (b.length ≤ p) := by omega
      have hnl2 : decide (b.length ≤ p) = false := by simp; omega
      go_enter Try.func102, Try.ntmps102
      go_wp2
      go_quiet (fail)
      go_wp2
      have hV : ((w.drewN nq).setCell ⟨g, 1, none⟩ (.int .i64 ((p : Int) + 1))).heap[g]? = some (.cells #[.slice (some ⟨b1, off, none⟩) b.length c, .int .i64 ((p : Int) + 1), .bool false] 141 (0, 0)) := var_set (w := w.drewN nq) HB.out 1 _
      have hTo : StTo w g b (l.drop 1, false) ((w.drewN nq).setCell ⟨g, 1, none⟩ (.int .i64 ((p + 1 : Nat) : Int))) := rd_go (only_drewN w g nq) HB.out ⟨hc, hn, by omega, HD.out⟩ (HR.out.keep fun q hq => rfl)
      have hTo2 : StTo w g b (l.drop 1, false) ((w.drewN nq).setCell ⟨g, 1, none⟩ (.int .i64 ((p : Int) + 1))) := hTo
      have hc2 : ((w.drewN nq).setCell ⟨g, 1, none⟩ (.int .i64 ((p : Int) + 1))).cell? ⟨b1, off + p, none⟩ = some (.int .u8 u.toNat) := (World.cell?_of_block (heap_setCell_other (w.drewN nq) ⟨g, 1, none⟩ b1 _ hng)).trans hcell
      clear hTo c0 c1 c2 f1 f2 hcell
      generalize (w.drewN nq).setCell ⟨g, 1, none⟩ (.int .i64 ((p : Int) + 1)) = V at hV hTo2 hc2 ⊢
      have c0 := var_cell hV 0
      have c1 := var_cell hV 1
      have hw9 : IntKind.i64.wrap ((p : Int) + 1 - 1) = (p : Int) := by rw [show (p : Int) + 1 - 1 = p by omega]; exact IntWalk.i64_in _ (by omega)
      have i0 : (0 : Int) ≤ (p : Int) := by omega
      have i1 : (p : Int) < (b.length : Int) := by omega
      have HTo := Lib.hid hTo2
      clear hV hTo2
      go_quiet (fail)
      clear hw9
      go_wp2
      go_ret
      exact ⟨by rw [HO.out]; rfl, HTo.out.later (belowD (Below.refl _ _) _)⟩
    · have hE : sB (l, false) = (0, (l, true)) := by unfold sB; rw [if_pos (.inr (by show l.length = 0; rw [HLL.out]; omega))]
      rw [hE]
      clear hE
      have hge : (b.length : Int) ≤ (p : Int) := by omega
      go_enter Try.func102, Try.ntmps102
      go_wp2
      go_quiet (fail)
      go_wp2
      go_ret
      exact ⟨rfl, rd_bad (only_drewN w g nq) HB.out ⟨hc, hn, hp, HL.out⟩ (HR.out.keep fun q hq => rfl)⟩
  · have hE : sB (l, true) = (0, (l, true)) := by unfold sB; rw [if_pos (.inl rfl)]
    rw [hE]
    clear hE
    go_enter Try.func102, Try.ntmps102
    go_wp2
    go_quiet (fail)
    go_wp2
    go_ret
    exact ⟨rfl, rd_bad (only_drewN w g nq) HB.out ⟨hc, hn, hp, HL.out⟩ (HR.out.keep fun q hq => rfl)⟩

theorem gw_drop (b : List UInt8) (p : Nat) (hp : p ≤ b.length) : gwVal (b.drop p) 0 = gwVal b p ∧ (gwOk b p = true ↔ ¬ (b.drop p).length < 2) := by
  have hl : (b.drop p).length = b.length - p := List.length_drop
  by_cases h : p + 2 ≤ b.length
  · have hx := List.getElem?_eq_getElem (show p < b.length by omega)
    have hy := List.getElem?_eq_getElem (show p + 1 < b.length by omega)
    have h1 := gw_yes h hx hy
    have h2 := gw_yes (l := b.drop p) (k := 0) (by omega) (by rw [List.getElem?_drop]; exact hx) (by rw [List.getElem?_drop]; exact hy)
    exact ⟨h2.2.1.trans h1.2.1.symm, by rw [h1.1, hl]; simp; omega⟩
  · have h1 := gw_no (l := b) (p := p) (.inr (by omega))
    have h2 := gw_no (l := b.drop p) (p := 0) (.inr (by omega))
    exact ⟨h2.2.1.trans h1.2.1.symm, by rw [h1.1, hl]; simp; omega⟩
theorem wordAt (A : Option Addr) (c p : Nat) (b : List UInt8) (w : World) (h : Reads w w.heap.size 1 A b.length (bys b)) (hn : b.length ≤ 100000000) (hp : p ≤ b.length) : ∃ (v : Int) (n : Nat) (k : Bool),
    (∀ m, Calls Try.prog 168 #[.slice A b.length c, .int .i64 (p : Int)] (w.drewN m) fun e w' => e = .returned (.tuple #[.int .i64 v, .int .i64 n, .bool k]) ∧ ∃ n, w' = (w.drewN m).drewN n) ∧
    (((k = false → sW (b.drop p, false) = (0, (b.drop p, true))) ∧ (k = false → sW (b.drop p, false) = (0, (b.drop p, true)))) ∧ (k = true → n ≤ b.length ∧ sW (b.drop p, false) = (v, (b.drop n, false)))) := by
  obtain ⟨e1, e2⟩ := gw_drop b p hp
  refine ⟨gwVal b p, if gwOk b p = true then p + 2 else 0, gwOk b p, fun m => (getWordS_any A c p b (w.drewN m) (h.keep fun _ _ => rfl) hn).mono fun e w' ⟨he, hw⟩ => ⟨by rw [he]; unfold gwNext; split <;> rfl, hw⟩, ?_, fun hk => ?_⟩
  · have hh : gwOk b p = false → sW (b.drop p, false) = (0, (b.drop p, true)) := fun hk => by
      unfold sW
      have h3 : (b.drop p).length < 2 := by
        by_cases h2 : (b.drop p).length < 2
        · exact h2
        · rw [e2.2 h2] at hk; cases hk
      rw [if_pos (.inr h3)]
    exact ⟨hh, hh⟩
  · have h2 := e2.1 hk
    rw [if_pos hk]
    have hl : (b.drop p).length = b.length - p := List.length_drop
    refine ⟨by omega, ?_⟩
    unfold sW
    rw [if_neg (by simp; omega)]
    show (gwVal (b.drop p) 0, ((b.drop p).drop 2, false)) = _
    rw [e1, List.drop_drop]
theorem gt_drop (b : List UInt8) (p : Nat) (hp : p ≤ b.length) : gtO (b.drop p) 0 = (gtO b p).map (fun x => (x.1, x.2 - (p : Int))) := by
  have hl : (b.drop p).length = b.length - p := List.length_drop
  by_cases h : p < b.length
  · have hx := List.getElem?_eq_getElem h
    have h1 := gt_in h hx
    have h2 := gt_in (l := b.drop p) (k := 0) (u := b[p]) (by omega) (by rw [List.getElem?_drop]; exact hx)
    have h3 : gtO (b.drop p) 0 = _ := h2
    rw [h3, h1]
    have ec : (((b.drop p).length : Int) - (((0 : Nat) : Int) + 1) < (b[p].toNat : Int)) ↔ ((b.length : Int) - ((p : Int) + 1) < (b[p].toNat : Int)) := by rw [hl]; omega
    have ed : (b.drop p).drop (0 + 1) = b.drop (p + 1) := by rw [List.drop_drop]
    rw [ed]
    by_cases hc : (b.length : Int) - ((p : Int) + 1) < (b[p].toNat : Int)
    · rw [if_pos hc, if_pos (ec.2 hc)]; rfl
    · rw [if_neg hc, if_neg (fun h => hc (ec.1 h))]
      split
      · show some _ = some _
        congr 1
        refine Prod.ext rfl ?_
        show ((0 : Nat) : Int) + 1 + (b[p].toNat : Int) = (p : Int) + 1 + (b[p].toNat : Int) - (p : Int)
        omega
      · rfl
  · rw [gt_out (l := b.drop p) (p := 0) (.inr (by omega)), gt_out (l := b) (p := p) (.inr (by omega))]; rfl
theorem gtN_in {b : List UInt8} {p : Nat} {x : List UInt8 × Int} (h : gtO b p = some x) : (p : Int) < x.2 ∧ x.2 ≤ b.length := by
  unfold gtO at h
  split at h
  · cases h
  · split at h
    · cases h
    · split at h
      · injection h with h
        rw [← h]
        dsimp only
        omega
      · cases h
theorem textAt (A : Option Addr) (c p : Nat) (b : List UInt8) (w : World) (h : Reads w w.heap.size 1 A b.length (bys b)) (hn : b.length ≤ 100000000 ∧ b.length ≤ c) (hp : p ≤ b.length) : ∃ (v : ByteArray) (n : Nat) (k : Bool),
    (∀ m, Calls Try.prog 169 #[.slice A b.length c, .int .i64 (p : Int)] (w.drewN m) fun e w' => e = .returned (.tuple #[.string v, .int .i64 n, .bool k]) ∧ ∃ n, w' = (w.drewN m).drewN n) ∧
    (((k = false → sT (b.drop p, false) = (⟨#[]⟩, (b.drop p, true))) ∧ (k = false → sT (b.drop p, false) = (⟨#[]⟩, (b.drop p, true)))) ∧ (k = true → n ≤ b.length ∧ sT (b.drop p, false) = (v, (b.drop n, false)))) := by
  have e := gt_drop b p hp
  cases hg : gtO b p with
  | none =>
    obtain ⟨g1, g2, g3⟩ := gt_none hg
    rw [hg] at e
    obtain ⟨d1, d2, d3⟩ := gt_none (l := b.drop p) (p := 0) e
    refine ⟨⟨#[]⟩, 0, false, fun m => (getTextS_any A c p b (w.drewN m) (h.keep fun _ _ => rfl) hn.1 hn.2).mono fun e w' ⟨he, hw⟩ => ⟨by rw [he, g1, g2, g3]; rfl, 0, by rw [← hw]; rfl⟩, ?_, fun hk => by cases hk⟩
    have hh : sT (b.drop p, false) = (⟨#[]⟩, (b.drop p, true)) := by unfold sT; rw [if_pos (.inr d3)]
    exact ⟨fun _ => hh, fun _ => hh⟩
  | some x =>
    obtain ⟨g1, g2, g3⟩ := gt_some hg
    rw [hg] at e
    obtain ⟨d1, d2, d3⟩ := gt_some (l := b.drop p) (p := 0) e
    obtain ⟨i1, i2⟩ := gtN_in hg
    obtain ⟨n, hn2⟩ : ∃ n : Nat, x.2 = n := ⟨x.2.toNat, by omega⟩
    refine ⟨⟨x.1.toArray⟩, n, true, fun m => (getTextS_any A c p b (w.drewN m) (h.keep fun _ _ => rfl) hn.1 hn.2).mono fun e w' ⟨he, hw⟩ => ⟨by rw [he, g1, g2, g3, hn2], 0, by rw [← hw]; rfl⟩, ⟨(fun hk => by cases hk), fun hk => by cases hk⟩, fun _ => ⟨by omega, ?_⟩⟩
    unfold sT
    rw [if_neg (by rw [d3]; simp)]
    dsimp only
    rw [d1, d2, List.drop_drop]
    show ((⟨x.1.toArray⟩ : ByteArray), (b.drop (p + (x.2 - p).toNat), false)) = _
    rw [show p + (x.2 - (p : Int)).toNat = n by omega]

set_option maxRecDepth 10000 in
set_option maxHeartbeats 4000000 in
theorem l9Word_any (g : Nat) (b : List UInt8) (s : St) (w : World) (h : RdS w g b s) :
    Calls Try.prog 103 #[.pointer (some ⟨g, 0, none⟩)] w fun e w' => e = .returned (.int .i64 (sW s).1) ∧ StTo w g b (sW s).2 w' := by
  obtain ⟨l, z⟩ := s
  have hlt := h.lt
  obtain ⟨A, c, p, hb, ⟨hc, hn, hp, hl⟩, hr⟩ := h
  replace hl : l = b.drop p := hl
  replace hb : w.heap[g]? = some (.cells #[.slice A b.length c, .int .i64 p, .bool z] 141 (0, 0)) := hb
  have HB := Lib.hid hb
  have HR := Lib.hid hr
  have HL := Lib.hid hl
  have c0 := var_cell hb 0
  have c1 := var_cell hb 1
  have c2 := var_cell hb 2
  have f2 := var_frozen hb 2
  have f1 := var_frozen hb 1
  have hrw := hr.more (Nat.le_of_lt hlt)
  have hnb : b.length ≤ 100000000 := by omega
  obtain ⟨v, n, k, hC, hp1⟩ := wordAt A c p b w hrw hnb hp
  rw [← hl] at hp1
  have HP := Lib.hid hp1
  clear hb hr hl hrw hp1
  cases hz : z
  · cases hk : k
    · have hE : sW (l, false) = (0, (l, true)) := by have h9 := HP.out.1; rw [hk] at h9; exact h9.2 rfl
      subst hk hz
      rw [hE]
      clear hE
      go_enter Try.func103, Try.ntmps103
      go_wp2
      go_quiet ((go_at_call 168; exact Calls.quiet_of (hC _)))
      clear hC
      go_wp2
      go_ret
      exact ⟨rfl, rd_bad (only_drewN w g nq) HB.out ⟨hc, hn, hp, HL.out⟩ (HR.out.keep fun q hq => rfl)⟩
    · have hh : n ≤ b.length ∧ sW (l, false) = (v, (b.drop n, false)) := by have h9 := HP.out.2; rw [hk] at h9; exact h9 rfl
      obtain ⟨hnn, hE⟩ := hh
      subst hk hz
      rw [hE]
      clear hE
      go_enter Try.func103, Try.ntmps103
      go_wp2
      go_quiet ((go_at_call 168; exact Calls.quiet_of (hC _)))
      clear hC
      go_wp2
      go_ret
      exact ⟨rfl, rd_go (only_drewN w g nq) HB.out ⟨hc, hn, hnn, rfl⟩ (HR.out.keep fun q hq => rfl)⟩
  · have hE : sW (l, true) = (0, (l, true)) := by unfold sW; rw [if_pos (.inl rfl)]
    subst hz
    rw [hE]
    clear hE
    go_enter Try.func103, Try.ntmps103
    go_wp2
    go_quiet ((go_at_call 168; exact Calls.quiet_of (hC _)))
    clear hC
    go_wp2
    go_ret
    exact ⟨rfl, rd_bad (only_drewN w g nq) HB.out ⟨hc, hn, hp, HL.out⟩ (HR.out.keep fun q hq => rfl)⟩

set_option maxRecDepth 10000 in
set_option maxHeartbeats 4000000 in
theorem l9Text_any (g : Nat) (b : List UInt8) (s : St) (w : World) (h : RdS w g b s) :
    Calls Try.prog 104 #[.pointer (some ⟨g, 0, none⟩)] w fun e w' => e = .returned (.string (sT s).1) ∧ StTo w g b (sT s).2 w' := by
  obtain ⟨l, z⟩ := s
  have hlt := h.lt
  obtain ⟨A, c, p, hb, ⟨hc, hn, hp, hl⟩, hr⟩ := h
  replace hl : l = b.drop p := hl
  replace hb : w.heap[g]? = some (.cells #[.slice A b.length c, .int .i64 p, .bool z] 141 (0, 0)) := hb
  have HB := Lib.hid hb
  have HR := Lib.hid hr
  have HL := Lib.hid hl
  have c0 := var_cell hb 0
  have c1 := var_cell hb 1
  have c2 := var_cell hb 2
  have f2 := var_frozen hb 2
  have f1 := var_frozen hb 1
  have hrw := hr.more (Nat.le_of_lt hlt)
  have hnb : b.length ≤ 100000000 := by omega
  obtain ⟨v, n, k, hC, hp1⟩ := textAt A c p b w hrw ⟨hnb, hc⟩ hp
  rw [← hl] at hp1
  have HP := Lib.hid hp1
  clear hb hr hl hrw hp1
  cases hz : z
  · cases hk : k
    · have hE : sT (l, false) = (⟨#[]⟩, (l, true)) := by have h9 := HP.out.1; rw [hk] at h9; exact h9.2 rfl
      subst hk hz
      rw [hE]
      clear hE
      go_enter Try.func104, Try.ntmps104
      go_wp2
      go_quiet ((go_at_call 169; exact Calls.quiet_of (hC _)))
      clear hC
      go_wp2
      go_ret
      exact ⟨rfl, rd_bad (only_drewN w g nq) HB.out ⟨hc, hn, hp, HL.out⟩ (HR.out.keep fun q hq => rfl)⟩
    · have hh : n ≤ b.length ∧ sT (l, false) = (v, (b.drop n, false)) := by have h9 := HP.out.2; rw [hk] at h9; exact h9 rfl
      obtain ⟨hnn, hE⟩ := hh
      subst hk hz
      rw [hE]
      clear hE
      go_enter Try.func104, Try.ntmps104
      go_wp2
      go_quiet ((go_at_call 169; exact Calls.quiet_of (hC _)))
      clear hC
      go_wp2
      go_ret
      exact ⟨rfl, rd_go (only_drewN w g nq) HB.out ⟨hc, hn, hnn, rfl⟩ (HR.out.keep fun q hq => rfl)⟩
  · have hE : sT (l, true) = (⟨#[]⟩, (l, true)) := by unfold sT; rw [if_pos (.inl rfl)]
    subst hz
    rw [hE]
    clear hE
    go_enter Try.func104, Try.ntmps104
    go_wp2
    go_quiet ((go_at_call 169; exact Calls.quiet_of (hC _)))
    clear hC
    go_wp2
    go_ret
    exact ⟨rfl, rd_bad (only_drewN w g nq) HB.out ⟨hc, hn, hp, HL.out⟩ (HR.out.keep fun q hq => rfl)⟩

end Go.Proofs.Ytgdhhhibkhfdlaa
