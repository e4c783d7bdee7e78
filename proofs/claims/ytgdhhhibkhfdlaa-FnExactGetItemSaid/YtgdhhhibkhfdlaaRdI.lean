/- The program's reader of parts: cut, octet, word, moment, text. -/
import Derived.Test.YtgdhhhibkhfdlaaReadP
import Derived.Test.YtgdhhhibkhfdlaaSlice1
import Derived.Test.YtgdhhhibkhfdlaaText
namespace Go.Proofs.Ytgdhhhibkhfdlaa
open Go.RowKit
set_option linter.unusedVariables false

/-- The reader in block g has l ahead. -/
def RdA (w : World) (g : Nat) (l : List UInt8) : Prop := ∃ A c, w.heap[g]? = some (.cells #[.slice A l.length c] 134 (0, 0)) ∧ (l.length ≤ c ∧ l.length ≤ 2000000) ∧ Reads w g 1 A l.length (bys l)
theorem RdA.lt {w : World} {g : Nat} {l : List UInt8} (h : RdA w g l) : g < w.heap.size := by
  obtain ⟨A, c, h1, _⟩ := h
  exact (Array.getElem?_eq_some_iff.1 h1).1
theorem RdA.len {w : World} {g : Nat} {l : List UInt8} (h : RdA w g l) : l.length ≤ 2000000 := by
  obtain ⟨A, c, _, h1, _⟩ := h
  exact h1.2
theorem RdA.only {w w' : World} {g : Nat} {l : List UInt8} {fp : List Nat} (h : RdA w g l) (ho : Rep.Only w w' fp) (hf : ∀ a, a ∈ fp → g < a) : RdA w' g l := by
  have hlt := h.lt
  obtain ⟨A, c, h1, h2, h3⟩ := h
  exact ⟨A, c, (ho.block g hlt (fun e => by have := hf g e; omega)).trans h1, h2, h3.keep fun p hp => World.cell?_of_block (ho.block p.block (by omega) (fun e => by have := hf _ e; omega))⟩
theorem RdA.below {w w' : World} {g : Nat} {l : List UInt8} (h : RdA w g l) (hb : Below w.heap.size w w') : RdA w' g l := h.only (Rep.only_of_below hb) (fun a ha => by cases ha)
theorem RdA.drewN {w : World} {g n : Nat} {l : List UInt8} (h : RdA w g l) : RdA (w.drewN n) g l := h.below (belowD (Below.refl _ _) n)
/-- What a step of the reader leaves. -/
structure RdTo (w : World) (g : Nat) (l : List UInt8) (w' : World) : Prop where
  at_ : RdA w' g l
  only : Rep.Only w w' [g]
theorem RdTo.trans {w w1 w2 : World} {g : Nat} {l l2 : List UInt8} (h : RdTo w g l w1) (h2 : RdTo w1 g l2 w2) : RdTo w g l2 w2 := ⟨h2.at_, h.only.trans h2.only⟩
theorem RdTo.later {w w1 w2 : World} {g : Nat} {l : List UInt8} (h : RdTo w g l w1) (hb : Below w1.heap.size w1 w2) : RdTo w g l w2 := ⟨h.at_.below hb, h.only.trans ((Rep.only_of_below hb).mono (by simp))⟩

theorem slice_hm {P : Program} {t e : TypeId} {i : TypeInfo} (ht : P.underlying t = some (.slice e)) (hi : P.info? e = some i) (hs : i.size = 1)
    {A : Option Addr} {n c k : Nat} (h2 : k ≤ n) (h3 : n ≤ c) :
    ∃ A', (∀ w, (Instr.slice t (.slice A n c) none (some (.int .i64 (k : Int))) (some (.int .i64 (k : Int)))).run P w = .ok (.slice A' k k) w) ∧
      ∀ {w : World} {B : Nat} {l : List UInt8}, Reads w B 1 A n (bys l) → Reads w B 1 A' k (bys (l.take k)) := by
  refine ⟨if k = 0 then A else A.map (·.add 0), fun w => ?_, ?_⟩
  · have a1 : (0 : Int) ≤ k := by omega
    have a2 : (k : Int) ≤ c := by omega
    have hz := sizeOf_run (P := P) (e := e) w hi
    have hkc : k ≤ c := by omega
    simp [Instr.slice, run_underlying ht, Instr.sliceBounds, Instr.sliceBound, asIntOf, hkc, hz, hs, go_sem]
  · intro w B l hr
    refine ⟨by have := hr.1; simp [bys] at this ⊢; omega, fun hn => ?_⟩
    obtain ⟨ad, rfl, hb, hcell⟩ := hr.2 (by omega)
    rw [if_neg (by omega)]
    refine ⟨ad.add 0, rfl, by rw [block_of_add]; exact hb, fun j u hu => ?_⟩
    rw [add_of_add, Nat.zero_add]
    refine hcell j u ?_
    by_cases hj : j < k
    · rw [← hu]
      simp only [bys, List.map_take, List.getElem?_take]
      rw [if_pos hj]
    · rw [List.getElem?_eq_none (by rw [bys_length, List.length_take]; omega)] at hu
      cases hu

theorem rd_set {w : World} {g d : Nat} {A : Option Addr} {L : List UInt8} {v : Value} (hb : w.heap[g]? = some (.cells #[v] 134 (0, 0))) (h : Reads w g 1 A L.length (bys L) ∧ L.length ≤ d ∧ L.length ≤ 2000000) : RdTo w g L (w.setCell ⟨g, 0, none⟩ (.slice A L.length d)) := by
  have ho : Rep.Only w (w.setCell ⟨g, 0, none⟩ (.slice A L.length d)) [g] := ⟨rfl, rfl, rfl, by simp [World.setCell], fun k hk hn => heap_setCell_other w ⟨g, 0, none⟩ k _ (fun e => hn (by simp [e]))⟩
  refine ⟨⟨A, d, ?_, h.2, h.1.keep fun p hp => World.cell?_of_block (heap_setCell_other w ⟨g, 0, none⟩ p.block _ (fun e => by have e2 : p.block = g := e; omega))⟩, ho⟩
  exact var_set hb 0 _
set_option maxHeartbeats 4000000 in
theorem cut_any (g k : Nat) (l : List UInt8) (w : World) (h : RdA w g l) (hk : k ≤ 2000000) :
    Calls Try.prog 164 #[.pointer (some ⟨g, 0, none⟩), .int .i64 k] w fun e w' => ∃ A, e = .returned (.slice A (l.take k).length (l.take k).length) ∧ Reads w' g 1 A (l.take k).length (bys (l.take k)) ∧ RdTo w g (l.drop k) w' := by
  have hlt := h.lt
  obtain ⟨A, c, hb, ⟨hc, hn⟩, hr⟩ := h
  obtain ⟨i0, hi0, hz0, hz1, hz2⟩ := info_parts Try.info8
  have c0 := var_cell hb 0
  have f0 := var_frozen hb 0
  have HB := Lib.hid hb
  have HR := Lib.hid hr
  clear hb hr
  obtain ⟨m, hm⟩ : ∃ m, min k l.length = m := ⟨_, rfl⟩
  have hm1 : m ≤ l.length := by omega
  have hmk : m = k ∨ m = l.length := by omega
  obtain ⟨A1, rs1, q1⟩ := slice_hm Try.underlying22 hi0 hz1 (A := A) (k := m) hm1 hc
  obtain ⟨A2, rs2, q2⟩ := slice_readsF Try.underlying22 hi0 hz1 (A := A) (c := c) (lo := m) .i64 hm1 hc
  have e1 : (l.take k).length = m := by rw [List.length_take]; omega
  have e2 : l.take k = l.take m := by
    rcases Nat.le_total k l.length with h | h
    · rw [show m = k by omega]
    · rw [List.take_of_length_le h, List.take_of_length_le (by omega)]
  have e3 : l.drop k = l.drop m := by
    rcases Nat.le_total k l.length with h | h
    · rw [show m = k by omega]
    · rw [List.drop_eq_nil_of_le h, List.drop_eq_nil_of_le (by omega)]
  have e4 : l.length - m = (l.drop m).length := List.length_drop.symm
  have r1 := q1 HR.out
  have r2 := q2 HR.out
  rw [e4] at rs2 r2
  obtain ⟨d, hd⟩ : ∃ d, c - m = d := ⟨_, rfl⟩
  rw [hd] at rs2
  have hdl : (l.drop m).length ≤ d := by rw [← e4]; omega
  rw [e1, e2, e3]
  obtain ⟨L, hL⟩ : ∃ L, l.drop m = L := ⟨_, rfl⟩
  rw [hL] at rs2 r2 hdl ⊢
  have hLn : L.length ≤ 2000000 := by rw [← hL, List.length_drop]; omega
  have H1 := Lib.hid r1
  have H2 := Lib.hid (And.intro r2 (And.intro hdl hLn))
  clear r1 r2 q1 q2 e1 e2 e3 e4 hL hd hdl hLn hz0 hz2
  by_cases hlk : (l.length : Int) < (k : Int)
  · obtain rfl : m = l.length := by omega
    clear hm hmk hm1
    go_enter Try.func164, Try.ntmps164
    go_wp2_with fail
    go_ret
    exact ⟨A1, rfl, H1.out.keep fun p hp => World.cell?_of_block (heap_setCell_other w ⟨g, 0, none⟩ p.block _ (fun e => by have e2 : p.block = g := e; omega)), rd_set HB.out H2.out⟩
  · obtain rfl : m = k := by omega
    clear hm hmk
    go_enter Try.func164, Try.ntmps164
    go_wp2_with fail
    go_ret
    exact ⟨A1, rfl, H1.out.keep fun p hp => World.cell?_of_block (heap_setCell_other w ⟨g, 0, none⟩ p.block _ (fun e => by have e2 : p.block = g := e; omega)), rd_set HB.out H2.out⟩


theorem oct_take (l : List UInt8) : ((l.take 1).getD 0 0).toNat = (l.getD 0 0).toNat := by cases l <;> rfl
set_option maxHeartbeats 4000000 in
theorem rdOctet_any (g : Nat) (l : List UInt8) (w : World) (h : RdA w g l) :
    Calls Try.prog 97 #[.pointer (some ⟨g, 0, none⟩)] w fun e w' => e = .returned (.int .i64 (iB l).1) ∧ RdTo w g (iB l).2 w' := by
  go_enter Try.func97, Try.ntmps97
  go_wp2_with fail
  refine (cut_any g 1 l w h (by omega)).mono ?_
  rintro e w1 ⟨A, rfl, hr, ht⟩
  have HT := Lib.hid ht
  clear ht
  cases l with
  | nil =>
    clear hr
    go_wp2_with fail
    go_ret
    exact ⟨rfl, HT.out⟩
  | cons b t =>
    obtain ⟨b1, off, u, rfl, hbl, hu, hcell⟩ := hr.byte (k := 0) (by simp)
    have hub : u = b := by simpa using hu.symm
    subst hub
    have hcell : w1.cell? ⟨b1, off, none⟩ = some (.int .u8 u.toNat) := by simpa using hcell
    have hl1 : ((u :: t).take 1).length = 1 := by simp
    have hul := byte_lt u
    rw [hl1]
    clear hu hr hl1
    go_wp2_with fail
    go_ret
    exact ⟨rfl, HT.out⟩

theorem gw_take (l : List UInt8) : gwVal (l.take 2) 0 = gwVal l 0 := by
  match l with
  | [] => rfl
  | [a] => rfl
  | a :: b :: t =>
    have h1 := (gw_yes (l := [a, b]) (k := 0) (x := a) (y := b) (by simp) rfl rfl).2.1
    have h2 := (gw_yes (l := a :: b :: t) (k := 0) (x := a) (y := b) (by simp) rfl rfl).2.1
    exact h1.trans h2.symm
set_option maxHeartbeats 4000000 in
theorem rdWord_any (g : Nat) (l : List UInt8) (w : World) (h : RdA w g l) :
    Calls Try.prog 165 #[.pointer (some ⟨g, 0, none⟩)] w fun e w' => e = .returned (.int .i64 (iW l).1) ∧ RdTo w g (iW l).2 w' := by
  go_enter Try.func165, Try.ntmps165
  go_wp2_with fail
  refine (cut_any g 2 l w h (by omega)).mono ?_
  rintro e w1 ⟨A, rfl, hr, ht⟩
  have HT := Lib.hid ht
  have hg : g ≤ w1.heap.size := Nat.le_of_lt ht.at_.lt
  have hln : (l.take 2).length ≤ 2 := by rw [List.length_take]; omega
  clear ht
  obtain ⟨m, hm⟩ : ∃ m, l.take 2 = m := ⟨_, rfl⟩
  have HM := Lib.hid (show gwVal m 0 = (iW l).1 by rw [← hm]; exact gw_take l)
  rw [hm] at hr hln ⊢
  clear hm
  have HR := Lib.hid hr
  clear hr
  go_wp2_with fail
  refine (getWord_any A m.length 0 m w1 (HR.out.more hg) (by omega)).mono ?_
  rintro e w2 ⟨rfl, n, rfl⟩
  rw [HM.out]
  go_wp2_with fail
  go_ret
  exact ⟨rfl, HT.out.later (belowD (Below.refl _ _) n)⟩

theorem iW_bd (l : List UInt8) : 0 ≤ (iW l).1 ∧ (iW l).1 ≤ 65535 := by
  show 0 ≤ gwVal l 0 ∧ gwVal l 0 ≤ 65535
  unfold gwVal
  split
  · have a := byte_lt (l.getD (0 : Int).toNat 0)
    have b := byte_lt (l.getD ((0 : Int).toNat + 1) 0)
    omega
  · omega
theorem iB_bd (l : List UInt8) : 0 ≤ (iB l).1 ∧ (iB l).1 ≤ 255 := by
  show 0 ≤ oct l ∧ oct l ≤ 255
  unfold oct
  have a := byte_lt (l.getD 0 0)
  omega
set_option maxHeartbeats 4000000 in
theorem rdMoment_any (g : Nat) (l : List UInt8) (w : World) (h : RdA w g l) :
    Calls Try.prog 167 #[.pointer (some ⟨g, 0, none⟩)] w fun e w' => e = .returned (.int .i64 (iM l).1) ∧ RdTo w g (iM l).2 w' := by
  obtain ⟨a, ha⟩ : ∃ a, (iW l).1 = a := ⟨_, rfl⟩
  obtain ⟨b, hb⟩ : ∃ b, (iB (iW l).2).1 = b := ⟨_, rfl⟩
  have hM : (iM l).1 = 256 * a + b := by rw [← ha, ← hb]; rfl
  rw [hM]
  have ba := iW_bd l
  have bb := iB_bd (iW l).2
  rw [ha] at ba
  rw [hb] at bb
  have HA := Lib.hid ha
  have HB := Lib.hid hb
  obtain ⟨a1, a2⟩ := ba
  obtain ⟨b1, b2⟩ := bb
  clear ha hb hM
  go_enter Try.func167, Try.ntmps167
  go_wp2_with fail
  refine (rdWord_any g l w h).mono ?_
  rw [HA.out]
  rintro e w1 ⟨rfl, ht⟩
  have HT := Lib.hid ht
  clear ht
  go_wp2_with fail
  refine (rdOctet_any g _ w1 HT.out.at_).mono ?_
  rw [HB.out]
  rintro e w2 ⟨rfl, ht⟩
  have HT2 := Lib.hid (HT.out.trans ht)
  clear ht HT
  go_wp2_with fail
  go_ret
  exact ⟨rfl, HT2.out⟩

theorem gtN_le (l : List UInt8) : 0 ≤ gtN l 0 ∧ gtN l 0 ≤ l.length := by
  unfold gtN
  cases h : gtO l 0 with
  | none => simp
  | some x =>
    show 0 ≤ x.2 ∧ x.2 ≤ _
    unfold gtO at h
    split at h
    · cases h
    · split at h
      · cases h
      · split at h
        · injection h with h
          rw [← h]
          dsimp only
          rename_i h1 h2 h3
          have := byte_lt (l.getD (0 : Int).toNat 0)
          omega
        · cases h
set_option maxHeartbeats 4000000 in
theorem rdText_any (g : Nat) (l : List UInt8) (w : World) (h : RdA w g l) :
    Calls Try.prog 166 #[.pointer (some ⟨g, 0, none⟩)] w fun e w' => e = .returned (.string (iT l).1) ∧ RdTo w g (iT l).2 w' := by
  have H := Lib.hid h
  have hlt := h.lt
  obtain ⟨A, c, hb, ⟨hc, hn⟩, hr⟩ := h
  have c0 := var_cell hb 0
  have HR := Lib.hid hr
  clear hb hr
  obtain ⟨k, hk⟩ : ∃ k : Nat, gtN l 0 = k := ⟨(gtN l 0).toNat, by have := (gtN_le l).1; omega⟩
  have hk2 : k ≤ l.length := by have := (gtN_le l).2; omega
  have e2 : (iT l).2 = l.drop k := by show l.drop (gtN l 0).toNat = _; rw [hk]; rfl
  rw [e2]
  have HK := Lib.hid hk
  clear hk e2
  go_enter Try.func166, Try.ntmps166
  go_wp2_with fail
  refine (getText_any A c 0 l w (HR.out.more (Nat.le_of_lt hlt)) (by omega) hc).mono ?_
  rw [HK.out]
  rintro e w1 ⟨rfl, rfl⟩
  go_wp2_with fail
  refine (cut_any g k l w H.out (by omega)).mono ?_
  rintro e w2 ⟨A2, rfl, _, ht⟩
  have HT := Lib.hid ht
  clear ht
  go_wp2_with fail
  go_ret
  exact ⟨rfl, HT.out⟩
end Go.Proofs.Ytgdhhhibkhfdlaa
