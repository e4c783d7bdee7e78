/- GetItem of the model: way 1. (Out of gen_l9g.py's text.) -/
import Derived.Test.YtgdhhhibkhfdlaaGetItemS0
namespace Go.Proofs.Ytgdhhhibkhfdlaa
open Go.RowKit
set_option linter.unusedVariables false
set_option linter.unusedSimpArgs false

set_option maxRecDepth 100000 in
set_option maxHeartbeats 16000000 in
theorem getItemS_1 (A : Option Addr) (c : Nat) (b : List UInt8) (w : World) (hr : Reads w w.heap.size 1 A b.length (bys b)) (hn : b.length ≤ 2000000) (hc : b.length ≤ c) (hcase : (sIt b).2 = true) :
    Calls Try.prog 37 #[.slice A b.length c] w (RetIt w (getI b)) := by
  have HC := Lib.hid hcase
  clear hcase
  have HR := Lib.hid hr
  clear hr
  obtain ⟨⟨gx, gb⟩, hg⟩ : ∃ p, getI b = p := ⟨_, rfl⟩
  rw [hg]
  have HG := Lib.hid ((sIt_getI b).trans hg)
  clear hg
  unfold RetIt
  dsimp only
  obtain ⟨a0, ha0⟩ : ∃ a0, w.alloc (.cells #[.int .i64 0, .int .i64 0, .string ⟨#[]⟩, .int .i64 0, .int .i64 0, .int .i64 0, .string ⟨#[]⟩, .int .i64 0, .int .i64 0, .int .i64 0, .string ⟨#[]⟩, .int .i64 0, .int .i64 0, .int .i64 0, .int .i64 0, .int .i64 0] 54) = a0 := ⟨_, rfl⟩
  have s0 : a0.heap.size = w.heap.size + 1 := by rw [← ha0]; simp
  have hA := Later.alloc w (.cells #[.int .i64 0, .int .i64 0, .string ⟨#[]⟩, .int .i64 0, .int .i64 0, .int .i64 0, .string ⟨#[]⟩, .int .i64 0, .int .i64 0, .int .i64 0, .string ⟨#[]⟩, .int .i64 0, .int .i64 0, .int .i64 0, .int .i64 0, .int .i64 0] 54)
  have v0 := heap_alloc_new w (.cells #[.int .i64 0, .int .i64 0, .string ⟨#[]⟩, .int .i64 0, .int .i64 0, .int .i64 0, .string ⟨#[]⟩, .int .i64 0, .int .i64 0, .int .i64 0, .string ⟨#[]⟩, .int .i64 0, .int .i64 0, .int .i64 0, .int .i64 0, .int .i64 0] 54)
  rw [ha0] at hA v0
  obtain ⟨a1, ha1⟩ : ∃ a1, a0.alloc (.cells #[.slice A b.length c, .int .i64 0, .bool false] 141) = a1 := ⟨_, rfl⟩
  have hB := Later.alloc a0 (.cells #[.slice A b.length c, .int .i64 0, .bool false] 141)
  have v1 := heap_alloc_new a0 (.cells #[.slice A b.length c, .int .i64 0, .bool false] 141)
  rw [ha1] at hB v1
  rw [s0] at v1
  replace v0 := (hB.block _ (by omega)).trans v0
  have hb0 : Below w.heap.size w a1 := Later.trans hA hB
  have h1 : RdS a1 (w.heap.size + 1) b (b, false) := ⟨A, c, 0, v1, ⟨hc, hn, by omega, rfl⟩, (HR.out.below hb0).more (by omega)⟩
  have HRD := Lib.hid h1
  have HV := Lib.hid v0
  have HB := Lib.hid hb0
  have HA0 := Lib.hid ha0
  have HA1 := Lib.hid ha1
  clear hA hB v0 v1 hb0 h1 s0 ha0 ha1
  obtain ⟨v0, hv⟩ : ∃ v, (sB (b, false)).1 = v := ⟨_, rfl⟩
  obtain ⟨s0, hl⟩ : ∃ l, (sB (b, false)).2 = l := ⟨_, rfl⟩
  have H0 := Lib.hid (And.intro hv hl)
  clear hv hl
  go_enter Try.func37, Try.ntmps37
  go_wp2_with fail
  rw [HA0.out, HA1.out]
  clear HA0 HA1
  refine (l9Byte_any (w.heap.size + 1) b (b, false) a1 HRD.out).mono ?_
  rw [H0.out.1, H0.out.2]
  rintro e W0 ⟨rfl, ht⟩
  have z1 : w.heap.size + 1 < W0.heap.size := ht.at_.lt
  have hv0 := (ht.only.block w.heap.size (by have := HB.out.size; have := HRD.out.lt; omega) (by simp)).trans HV.out
  have hb0 : Below w.heap.size w W0 := Rep.Only.below HB.out ht.only HB.out.size (fun a ha => by simp at ha; omega)
  have hrd := ht.at_
  clear HV HB HRD ht
  have ha := Later.alloc W0 (.cells #[.int .i64 v0, .int .i64 0, .string ⟨#[]⟩, .int .i64 0, .int .i64 0, .int .i64 0, .string ⟨#[]⟩, .int .i64 0, .int .i64 0, .int .i64 0, .string ⟨#[]⟩, .int .i64 0, .int .i64 0, .int .i64 0, .int .i64 0, .int .i64 0] 54)
  have hx := heap_alloc_new W0 (.cells #[.int .i64 v0, .int .i64 0, .string ⟨#[]⟩, .int .i64 0, .int .i64 0, .int .i64 0, .string ⟨#[]⟩, .int .i64 0, .int .i64 0, .int .i64 0, .string ⟨#[]⟩, .int .i64 0, .int .i64 0, .int .i64 0, .int .i64 0, .int .i64 0] 54)
  replace hrd := hrd.below ha
  replace hv0 := (ha.block w.heap.size (by omega)).trans hv0
  replace hb0 := Later.trans hb0 ha
  have zX : W0.heap.size < (W0.alloc (.cells #[.int .i64 v0, .int .i64 0, .string ⟨#[]⟩, .int .i64 0, .int .i64 0, .int .i64 0, .string ⟨#[]⟩, .int .i64 0, .int .i64 0, .int .i64 0, .string ⟨#[]⟩, .int .i64 0, .int .i64 0, .int .i64 0, .int .i64 0, .int .i64 0] 54)).heap.size := by simp
  have HF := Lib.hid (And.intro hx (And.intro hv0 (And.intro hb0 (And.intro hrd (And.intro zX z1)))))
  clear ha hx hrd hv0 hb0 zX z1
  go_upto_if 14 with (fail)
  generalize W0.alloc (.cells #[.int .i64 v0, .int .i64 0, .string ⟨#[]⟩, .int .i64 0, .int .i64 0, .int .i64 0, .string ⟨#[]⟩, .int .i64 0, .int .i64 0, .int .i64 0, .string ⟨#[]⟩, .int .i64 0, .int .i64 0, .int .i64 0, .int .i64 0, .int .i64 0] 54) = V0 at HF ⊢
  generalize W0.heap.size = X at HF ⊢
  go_cut [] from 12 (fun wr => AfterS w b X wr)
  case first =>
    by_cases hk : v0 = 1
    · as_aux_lemma =>
      have hk0 : (v0 == 1) = true := by simp [hk]
      have HKK := Lib.hid (show (sB (b, false)).1 = 1 by rw [H0.out.1]; exact hk)
      clear hk
      obtain ⟨v1, hv⟩ : ∃ v, (sW s0).1 = v := ⟨_, rfl⟩
      obtain ⟨s1, hl⟩ : ∃ l, (sW s0).2 = l := ⟨_, rfl⟩
      have H1 := Lib.hid (And.intro hv hl)
      clear hv hl
      obtain ⟨v2, hv⟩ : ∃ v, (sB s1).1 = v := ⟨_, rfl⟩
      obtain ⟨s2, hl⟩ : ∃ l, (sB s1).2 = l := ⟨_, rfl⟩
      have H2 := Lib.hid (And.intro hv hl)
      clear hv hl
      obtain ⟨v3, hv⟩ : ∃ v, (sT s2).1 = v := ⟨_, rfl⟩
      obtain ⟨s3, hl⟩ : ∃ l, (sT s2).2 = l := ⟨_, rfl⟩
      have H3 := Lib.hid (And.intro hv hl)
      clear hv hl
      obtain ⟨v4, hv⟩ : ∃ v, (sW s3).1 = v := ⟨_, rfl⟩
      obtain ⟨s4, hl⟩ : ∃ l, (sW s3).2 = l := ⟨_, rfl⟩
      have H4 := Lib.hid (And.intro hv hl)
      clear hv hl
      obtain ⟨v5, hv⟩ : ∃ v, (sW s4).1 = v := ⟨_, rfl⟩
      obtain ⟨s5, hl⟩ : ∃ l, (sW s4).2 = l := ⟨_, rfl⟩
      have H5 := Lib.hid (And.intro hv hl)
      clear hv hl
      have hw5 : 0 ≤ v5 ∧ v5 ≤ 65535 := by rw [← H5.out.1]; exact sW_bd _
      obtain ⟨wa, wb⟩ := hw5
      obtain ⟨v6, hv⟩ : ∃ v, (sB s5).1 = v := ⟨_, rfl⟩
      obtain ⟨s6, hl⟩ : ∃ l, (sB s5).2 = l := ⟨_, rfl⟩
      have H6 := Lib.hid (And.intro hv hl)
      clear hv hl
      have hw6 : 0 ≤ v6 ∧ v6 ≤ 255 := by rw [← H6.out.1]; exact sB_bd _
      obtain ⟨ba, bb⟩ := hw6
      obtain ⟨v7, hv⟩ : ∃ v, (sT s6).1 = v := ⟨_, rfl⟩
      obtain ⟨s7, hl⟩ : ∃ l, (sT s6).2 = l := ⟨_, rfl⟩
      have H7 := Lib.hid (And.intro hv hl)
      clear hv hl
      obtain ⟨v8, hv⟩ : ∃ v, (sW s7).1 = v := ⟨_, rfl⟩
      obtain ⟨s8, hl⟩ : ∃ l, (sW s7).2 = l := ⟨_, rfl⟩
      have H8 := Lib.hid (And.intro hv hl)
      clear hv hl
      obtain ⟨v9, hv⟩ : ∃ v, (sW s8).1 = v := ⟨_, rfl⟩
      obtain ⟨s9, hl⟩ : ∃ l, (sW s8).2 = l := ⟨_, rfl⟩
      have H9 := Lib.hid (And.intro hv hl)
      clear hv hl
      have HX := Lib.hid (show sIt b = (⟨v0, ⟨v1, v3, v2, v4, (256 * v5 + v6), v7, v8, v9⟩, lnZero⟩, s9.2) from by unfold sIt sAk sM; dsimp only; rw [if_pos HKK.out]; simp only [H0.out.1, H0.out.2, H1.out.1, H1.out.2, H2.out.1, H2.out.2, H3.out.1, H3.out.2, H4.out.1, H4.out.2, H5.out.1, H5.out.2, H6.out.1, H6.out.2, H7.out.1, H7.out.2, H8.out.1, H8.out.2, H9.out.1, H9.out.2])
      go_wp2_with fail
      refine (l9Word_any (w.heap.size + 1) b s0 V0 HF.out.2.2.2.1).mono ?_
      rw [H1.out.1, H1.out.2]
      rintro e U1 ⟨rfl, ht⟩
      obtain ⟨hx, hv0, hb0, hrd, zX, z1⟩ := HF.out
      clear HF hrd
      replace hx := (ht.only.block X zX (by simp; omega)).trans hx
      replace hv0 := (ht.only.block w.heap.size (by omega) (by simp)).trans hv0
      replace hb0 : Below w.heap.size w U1 := Rep.Only.below hb0 ht.only hb0.size (fun a ha => by simp at ha; omega)
      replace zX : X < U1.heap.size := Nat.lt_of_lt_of_le zX ht.only.size
      have d1 := var_cell hx 1
      have f1 := var_frozen hx 1
      have HF := Lib.hid (And.intro hx (And.intro hv0 (And.intro hb0 (And.intro ht.at_ (And.intro zX z1)))))
      clear hx hv0 hb0 zX z1 ht
      go_wp2_with fail
      clear d1 f1
      obtain ⟨hx, hv0, hb0, hrd, zX, z1⟩ := HF.out
      clear HF
      have ho := set_only U1 X 1 (.int .i64 v1)
      replace hx : (U1.setCell ⟨X, 1, none⟩ (.int .i64 v1)).heap[X]? = some (.cells #[.int .i64 v0, .int .i64 v1, .string ⟨#[]⟩, .int .i64 0, .int .i64 0, .int .i64 0, .string ⟨#[]⟩, .int .i64 0, .int .i64 0, .int .i64 0, .string ⟨#[]⟩, .int .i64 0, .int .i64 0, .int .i64 0, .int .i64 0, .int .i64 0] 54 (0, 0)) := by have h9 := var_set hx 1 (.int .i64 v1); simpa using h9
      replace hv0 := (ho.block w.heap.size (by omega) (by simp; omega)).trans hv0
      replace hb0 : Below w.heap.size w (U1.setCell ⟨X, 1, none⟩ (.int .i64 v1)) := Rep.Only.below hb0 ho hb0.size (fun a ha => by simp at ha; omega)
      replace hrd := hrd.only ho (fun a ha => by simp at ha; omega)
      replace zX : X < (U1.setCell ⟨X, 1, none⟩ (.int .i64 v1)).heap.size := Nat.lt_of_lt_of_le zX ho.size
      clear ho
      have HF := Lib.hid (And.intro hx (And.intro hv0 (And.intro hb0 (And.intro hrd (And.intro zX z1)))))
      clear hx hv0 hb0 zX z1 hrd
      generalize U1.setCell ⟨X, 1, none⟩ (.int .i64 v1) = V1 at HF ⊢
      refine (l9Byte_any (w.heap.size + 1) b s1 V1 HF.out.2.2.2.1).mono ?_
      rw [H2.out.1, H2.out.2]
      rintro e U2 ⟨rfl, ht⟩
      obtain ⟨hx, hv0, hb0, hrd, zX, z1⟩ := HF.out
      clear HF hrd
      replace hx := (ht.only.block X zX (by simp; omega)).trans hx
      replace hv0 := (ht.only.block w.heap.size (by omega) (by simp)).trans hv0
      replace hb0 : Below w.heap.size w U2 := Rep.Only.below hb0 ht.only hb0.size (fun a ha => by simp at ha; omega)
      replace zX : X < U2.heap.size := Nat.lt_of_lt_of_le zX ht.only.size
      have d3 := var_cell hx 3
      have f3 := var_frozen hx 3
      have HF := Lib.hid (And.intro hx (And.intro hv0 (And.intro hb0 (And.intro ht.at_ (And.intro zX z1)))))
      clear hx hv0 hb0 zX z1 ht
      go_wp2_with fail
      clear d3 f3
      obtain ⟨hx, hv0, hb0, hrd, zX, z1⟩ := HF.out
      clear HF
      have ho := set_only U2 X 3 (.int .i64 v2)
      replace hx : (U2.setCell ⟨X, 3, none⟩ (.int .i64 v2)).heap[X]? = some (.cells #[.int .i64 v0, .int .i64 v1, .string ⟨#[]⟩, .int .i64 v2, .int .i64 0, .int .i64 0, .string ⟨#[]⟩, .int .i64 0, .int .i64 0, .int .i64 0, .string ⟨#[]⟩, .int .i64 0, .int .i64 0, .int .i64 0, .int .i64 0, .int .i64 0] 54 (0, 0)) := by have h9 := var_set hx 3 (.int .i64 v2); simpa using h9
      replace hv0 := (ho.block w.heap.size (by omega) (by simp; omega)).trans hv0
      replace hb0 : Below w.heap.size w (U2.setCell ⟨X, 3, none⟩ (.int .i64 v2)) := Rep.Only.below hb0 ho hb0.size (fun a ha => by simp at ha; omega)
      replace hrd := hrd.only ho (fun a ha => by simp at ha; omega)
      replace zX : X < (U2.setCell ⟨X, 3, none⟩ (.int .i64 v2)).heap.size := Nat.lt_of_lt_of_le zX ho.size
      clear ho
      have HF := Lib.hid (And.intro hx (And.intro hv0 (And.intro hb0 (And.intro hrd (And.intro zX z1)))))
      clear hx hv0 hb0 zX z1 hrd
      generalize U2.setCell ⟨X, 3, none⟩ (.int .i64 v2) = V2 at HF ⊢
      as_aux_lemma =>
      refine (l9Text_any (w.heap.size + 1) b s2 V2 HF.out.2.2.2.1).mono ?_
      rw [H3.out.1, H3.out.2]
      rintro e U3 ⟨rfl, ht⟩
      obtain ⟨hx, hv0, hb0, hrd, zX, z1⟩ := HF.out
      clear HF hrd
      replace hx := (ht.only.block X zX (by simp; omega)).trans hx
      replace hv0 := (ht.only.block w.heap.size (by omega) (by simp)).trans hv0
      replace hb0 : Below w.heap.size w U3 := Rep.Only.below hb0 ht.only hb0.size (fun a ha => by simp at ha; omega)
      replace zX : X < U3.heap.size := Nat.lt_of_lt_of_le zX ht.only.size
      have d2 := var_cell hx 2
      have f2 := var_frozen hx 2
      have HF := Lib.hid (And.intro hx (And.intro hv0 (And.intro hb0 (And.intro ht.at_ (And.intro zX z1)))))
      clear hx hv0 hb0 zX z1 ht
      go_wp2_with fail
      clear d2 f2
      obtain ⟨hx, hv0, hb0, hrd, zX, z1⟩ := HF.out
      clear HF
      have ho := set_only U3 X 2 (.string v3)
      replace hx : (U3.setCell ⟨X, 2, none⟩ (.string v3)).heap[X]? = some (.cells #[.int .i64 v0, .int .i64 v1, .string v3, .int .i64 v2, .int .i64 0, .int .i64 0, .string ⟨#[]⟩, .int .i64 0, .int .i64 0, .int .i64 0, .string ⟨#[]⟩, .int .i64 0, .int .i64 0, .int .i64 0, .int .i64 0, .int .i64 0] 54 (0, 0)) := by have h9 := var_set hx 2 (.string v3); simpa using h9
      replace hv0 := (ho.block w.heap.size (by omega) (by simp; omega)).trans hv0
      replace hb0 : Below w.heap.size w (U3.setCell ⟨X, 2, none⟩ (.string v3)) := Rep.Only.below hb0 ho hb0.size (fun a ha => by simp at ha; omega)
      replace hrd := hrd.only ho (fun a ha => by simp at ha; omega)
      replace zX : X < (U3.setCell ⟨X, 2, none⟩ (.string v3)).heap.size := Nat.lt_of_lt_of_le zX ho.size
      clear ho
      have HF := Lib.hid (And.intro hx (And.intro hv0 (And.intro hb0 (And.intro hrd (And.intro zX z1)))))
      clear hx hv0 hb0 zX z1 hrd
      generalize U3.setCell ⟨X, 2, none⟩ (.string v3) = V3 at HF ⊢
      refine (l9Word_any (w.heap.size + 1) b s3 V3 HF.out.2.2.2.1).mono ?_
      rw [H4.out.1, H4.out.2]
      rintro e U4 ⟨rfl, ht⟩
      obtain ⟨hx, hv0, hb0, hrd, zX, z1⟩ := HF.out
      clear HF hrd
      replace hx := (ht.only.block X zX (by simp; omega)).trans hx
      replace hv0 := (ht.only.block w.heap.size (by omega) (by simp)).trans hv0
      replace hb0 : Below w.heap.size w U4 := Rep.Only.below hb0 ht.only hb0.size (fun a ha => by simp at ha; omega)
      replace zX : X < U4.heap.size := Nat.lt_of_lt_of_le zX ht.only.size
      have d4 := var_cell hx 4
      have f4 := var_frozen hx 4
      have HF := Lib.hid (And.intro hx (And.intro hv0 (And.intro hb0 (And.intro ht.at_ (And.intro zX z1)))))
      clear hx hv0 hb0 zX z1 ht
      go_wp2_with fail
      clear d4 f4
      obtain ⟨hx, hv0, hb0, hrd, zX, z1⟩ := HF.out
      clear HF
      have ho := set_only U4 X 4 (.int .i64 v4)
      replace hx : (U4.setCell ⟨X, 4, none⟩ (.int .i64 v4)).heap[X]? = some (.cells #[.int .i64 v0, .int .i64 v1, .string v3, .int .i64 v2, .int .i64 v4, .int .i64 0, .string ⟨#[]⟩, .int .i64 0, .int .i64 0, .int .i64 0, .string ⟨#[]⟩, .int .i64 0, .int .i64 0, .int .i64 0, .int .i64 0, .int .i64 0] 54 (0, 0)) := by have h9 := var_set hx 4 (.int .i64 v4); simpa using h9
      replace hv0 := (ho.block w.heap.size (by omega) (by simp; omega)).trans hv0
      replace hb0 : Below w.heap.size w (U4.setCell ⟨X, 4, none⟩ (.int .i64 v4)) := Rep.Only.below hb0 ho hb0.size (fun a ha => by simp at ha; omega)
      replace hrd := hrd.only ho (fun a ha => by simp at ha; omega)
      replace zX : X < (U4.setCell ⟨X, 4, none⟩ (.int .i64 v4)).heap.size := Nat.lt_of_lt_of_le zX ho.size
      clear ho
      have HF := Lib.hid (And.intro hx (And.intro hv0 (And.intro hb0 (And.intro hrd (And.intro zX z1)))))
      clear hx hv0 hb0 zX z1 hrd
      generalize U4.setCell ⟨X, 4, none⟩ (.int .i64 v4) = V4 at HF ⊢
      as_aux_lemma =>
      refine (l9Word_any (w.heap.size + 1) b s4 V4 HF.out.2.2.2.1).mono ?_
      rw [H5.out.1, H5.out.2]
      rintro e U5 ⟨rfl, ht⟩
      obtain ⟨hx, hv0, hb0, hrd, zX, z1⟩ := HF.out
      clear HF hrd
      replace hx := (ht.only.block X zX (by simp; omega)).trans hx
      replace hv0 := (ht.only.block w.heap.size (by omega) (by simp)).trans hv0
      replace hb0 : Below w.heap.size w U5 := Rep.Only.below hb0 ht.only hb0.size (fun a ha => by simp at ha; omega)
      replace zX : X < U5.heap.size := Nat.lt_of_lt_of_le zX ht.only.size
      have d5 := var_cell hx 5
      have f5 := var_frozen hx 5
      have HF := Lib.hid (And.intro hx (And.intro hv0 (And.intro hb0 (And.intro ht.at_ (And.intro zX z1)))))
      clear hx hv0 hb0 zX z1 ht
      go_upto_region 9 with (fail)
      clear d5 f5
      obtain ⟨hx, hv0, hb0, hrd, zX, z1⟩ := HF.out
      clear HF
      have ho := set_only U5 X 5 (.int .i64 (256 * v5))
      replace hx : (U5.setCell ⟨X, 5, none⟩ (.int .i64 (256 * v5))).heap[X]? = some (.cells #[.int .i64 v0, .int .i64 v1, .string v3, .int .i64 v2, .int .i64 v4, .int .i64 (256 * v5), .string ⟨#[]⟩, .int .i64 0, .int .i64 0, .int .i64 0, .string ⟨#[]⟩, .int .i64 0, .int .i64 0, .int .i64 0, .int .i64 0, .int .i64 0] 54 (0, 0)) := by have h9 := var_set hx 5 (.int .i64 (256 * v5)); simpa using h9
      replace hv0 := (ho.block w.heap.size (by omega) (by simp; omega)).trans hv0
      replace hb0 : Below w.heap.size w (U5.setCell ⟨X, 5, none⟩ (.int .i64 (256 * v5))) := Rep.Only.below hb0 ho hb0.size (fun a ha => by simp at ha; omega)
      replace hrd := hrd.only ho (fun a ha => by simp at ha; omega)
      replace zX : X < (U5.setCell ⟨X, 5, none⟩ (.int .i64 (256 * v5))).heap.size := Nat.lt_of_lt_of_le zX ho.size
      clear ho
      have HF := Lib.hid (And.intro hx (And.intro hv0 (And.intro hb0 (And.intro hrd (And.intro zX z1)))))
      clear hx hv0 hb0 zX z1 hrd
      generalize U5.setCell ⟨X, 5, none⟩ (.int .i64 (256 * v5)) = V5 at HF ⊢
      have T : All (fun w' => Below V5.heap.size V5 w' ∧ (w'.heap[X]? = some (.cells #[.int .i64 v0, .int .i64 v1, .string v3, .int .i64 v2, .int .i64 v4, .int .i64 (256 * v5), .string ⟨#[]⟩, .int .i64 0, .int .i64 0, .int .i64 0, .string ⟨#[]⟩, .int .i64 0, .int .i64 0, .int .i64 0, .int .i64 0, .int .i64 0] 54 (0, 0)))) V5 := ⟨Below.refl _ _, HF.out.1⟩
      refine wp_region_open 8 (fun w' => w'.heap[X]? = some (.cells #[.int .i64 v0, .int .i64 v1, .string v3, .int .i64 v2, .int .i64 v4, .int .i64 (256 * v5), .string ⟨#[]⟩, .int .i64 0, .int .i64 0, .int .i64 0, .string ⟨#[]⟩, .int .i64 0, .int .i64 0, .int .i64 0, .int .i64 0, .int .i64 0] 54 (0, 0))) (by kernel_rfl) ?_
      replace T := T.drew
      have hdr := Later.drew V5
      obtain ⟨hx, hv0, hb0, hrd, zX, z1⟩ := HF.out
      clear HF
      replace hv0 := (hdr.block w.heap.size (by omega)).trans hv0
      replace hb0 := Later.trans hb0 hdr
      replace hrd := hrd.below hdr
      replace zX := Nat.lt_of_lt_of_le zX hdr.size
      clear hdr hx
      generalize V5.drew = D5 at T hv0 hb0 hrd zX ⊢
      have hwr : IntKind.i64.wrap (256 * v5 + v6) = 256 * v5 + v6 := IntWalk.i64_in _ (by omega)
      refine wpAnyL_readsG [0, 1, 2, 3] (fuel := 5) (by kernel_rfl) T.out.2 ?_
      refine LexRG.yes rfl (by first | rfl | (simp [Region.wanted, yielded]; done)) ?_ (fun w' hw => ?_) ?_
      rotate_left
      focus (clear hw; go_simp; (try exact rfl))
      try go_frame
      refine LexRG.yes rfl (by first | rfl | (simp [Region.wanted, yielded]; done)) ?_ (fun w' hw => ?_) ?_
      rotate_left
      focus (clear hw; go_simp; (try exact rfl))
      try go_frame
      refine LexRG.yes rfl (by first | rfl | (simp [Region.wanted, yielded]; done)) ?_ (fun w' hw => ?_) ?_
      rotate_left
      focus (have c9 := var_cell hw 5; clear hw; go_simp; (try exact rfl))
      try go_frame
      refine LexRG.yes rfl (by first | rfl | (simp [Region.wanted, yielded]; done)) ?_ (fun w' hw => ?_) ?_
      rotate_left
      focus (clear hw; go_simp; (try exact rfl))
      try go_frame
      refine LexRG.nil ?_
      refine wpAnyL_one (i := 4) (by kernel_rfl) ?_
      refine lexA_get rfl ?_
      try go_frame
      go_wp2_with fail
      refine (l9Byte_any (w.heap.size + 1) b s5 D5 hrd).mono ?_
      rw [H6.out.1, H6.out.2]
      rintro e U6 ⟨rfl, ht⟩
      have hx := (ht.only.block X zX (by simp; omega)).trans T.out.2
      clear T
      replace hv0 := (ht.only.block w.heap.size (by omega) (by simp)).trans hv0
      replace hb0 : Below w.heap.size w U6 := Rep.Only.below hb0 ht.only hb0.size (fun a ha => by simp at ha; omega)
      replace zX : X < U6.heap.size := Nat.lt_of_lt_of_le zX ht.only.size
      replace hrd := ht.at_
      clear ht
      have T : All (fun w' => Below U6.heap.size U6 w' ∧ (w'.heap[X]? = some (.cells #[.int .i64 v0, .int .i64 v1, .string v3, .int .i64 v2, .int .i64 v4, .int .i64 (256 * v5), .string ⟨#[]⟩, .int .i64 0, .int .i64 0, .int .i64 0, .string ⟨#[]⟩, .int .i64 0, .int .i64 0, .int .i64 0, .int .i64 0, .int .i64 0] 54 (0, 0)))) U6 := ⟨Below.refl _ _, hx⟩
      go_wp2_with fail
      refine ⟨fun _ => T.out.2, ?_⟩
      refine wpAnyL_readsG [5] (fuel := 3) (by kernel_rfl) T.out.2 ?_
      refine LexRG.yes rfl (by first | rfl | (simp [Region.wanted, yielded]; done)) ?_ (fun w' hw => ?_) ?_
      rotate_left
      focus (clear hw; go_simp; (try exact rfl))
      try go_frame
      refine LexRG.nil ?_
      refine wpAnyL_writes [6, 7, 8] (by kernel_rfl) (LexW.cons rfl ?_)
      try go_frame
      go_wp2_with fail
      refine ⟨fun _ => T.out.2, LexW.cons rfl ?_⟩
      try go_frame
      go_wp2_with fail
      refine ⟨fun _ => T.out.2, LexW.cons rfl ?_⟩
      try go_frame
      have d5 := var_cell hx 5
      have f5 := var_frozen hx 5
      go_wp2_with fail
      refine ⟨fun h => absurd rfl h, LexW.nil ?_⟩
      clear d5 f5 T hwr
      have HF := Lib.hid (And.intro hx (And.intro hv0 (And.intro hb0 (And.intro hrd (And.intro zX z1)))))
      clear hx hv0 hb0 zX z1 hrd
      obtain ⟨hx, hv0, hb0, hrd, zX, z1⟩ := HF.out
      clear HF
      have ho := set_only U6 X 5 (.int .i64 (256 * v5 + v6))
      replace hx : (U6.setCell ⟨X, 5, none⟩ (.int .i64 (256 * v5 + v6))).heap[X]? = some (.cells #[.int .i64 v0, .int .i64 v1, .string v3, .int .i64 v2, .int .i64 v4, .int .i64 (256 * v5 + v6), .string ⟨#[]⟩, .int .i64 0, .int .i64 0, .int .i64 0, .string ⟨#[]⟩, .int .i64 0, .int .i64 0, .int .i64 0, .int .i64 0, .int .i64 0] 54 (0, 0)) := by have h9 := var_set hx 5 (.int .i64 (256 * v5 + v6)); simpa using h9
      replace hv0 := (ho.block w.heap.size (by omega) (by simp; omega)).trans hv0
      replace hb0 : Below w.heap.size w (U6.setCell ⟨X, 5, none⟩ (.int .i64 (256 * v5 + v6))) := Rep.Only.below hb0 ho hb0.size (fun a ha => by simp at ha; omega)
      replace hrd := hrd.only ho (fun a ha => by simp at ha; omega)
      replace zX : X < (U6.setCell ⟨X, 5, none⟩ (.int .i64 (256 * v5 + v6))).heap.size := Nat.lt_of_lt_of_le zX ho.size
      clear ho
      have HF := Lib.hid (And.intro hx (And.intro hv0 (And.intro hb0 (And.intro hrd (And.intro zX z1)))))
      clear hx hv0 hb0 zX z1 hrd
      generalize U6.setCell ⟨X, 5, none⟩ (.int .i64 (256 * v5 + v6)) = V6 at HF ⊢
      as_aux_lemma =>
      go_wp2_with fail
      refine (l9Text_any (w.heap.size + 1) b s6 V6 HF.out.2.2.2.1).mono ?_
      rw [H7.out.1, H7.out.2]
      rintro e U7 ⟨rfl, ht⟩
      obtain ⟨hx, hv0, hb0, hrd, zX, z1⟩ := HF.out
      clear HF hrd
      replace hx := (ht.only.block X zX (by simp; omega)).trans hx
      replace hv0 := (ht.only.block w.heap.size (by omega) (by simp)).trans hv0
      replace hb0 : Below w.heap.size w U7 := Rep.Only.below hb0 ht.only hb0.size (fun a ha => by simp at ha; omega)
      replace zX : X < U7.heap.size := Nat.lt_of_lt_of_le zX ht.only.size
      have d6 := var_cell hx 6
      have f6 := var_frozen hx 6
      have HF := Lib.hid (And.intro hx (And.intro hv0 (And.intro hb0 (And.intro ht.at_ (And.intro zX z1)))))
      clear hx hv0 hb0 zX z1 ht
      go_wp2_with fail
      clear d6 f6
      obtain ⟨hx, hv0, hb0, hrd, zX, z1⟩ := HF.out
      clear HF
      have ho := set_only U7 X 6 (.string v7)
      replace hx : (U7.setCell ⟨X, 6, none⟩ (.string v7)).heap[X]? = some (.cells #[.int .i64 v0, .int .i64 v1, .string v3, .int .i64 v2, .int .i64 v4, .int .i64 (256 * v5 + v6), .string v7, .int .i64 0, .int .i64 0, .int .i64 0, .string ⟨#[]⟩, .int .i64 0, .int .i64 0, .int .i64 0, .int .i64 0, .int .i64 0] 54 (0, 0)) := by have h9 := var_set hx 6 (.string v7); simpa using h9
      replace hv0 := (ho.block w.heap.size (by omega) (by simp; omega)).trans hv0
      replace hb0 : Below w.heap.size w (U7.setCell ⟨X, 6, none⟩ (.string v7)) := Rep.Only.below hb0 ho hb0.size (fun a ha => by simp at ha; omega)
      replace hrd := hrd.only ho (fun a ha => by simp at ha; omega)
      replace zX : X < (U7.setCell ⟨X, 6, none⟩ (.string v7)).heap.size := Nat.lt_of_lt_of_le zX ho.size
      clear ho
      have HF := Lib.hid (And.intro hx (And.intro hv0 (And.intro hb0 (And.intro hrd (And.intro zX z1)))))
      clear hx hv0 hb0 zX z1 hrd
      generalize U7.setCell ⟨X, 6, none⟩ (.string v7) = V7 at HF ⊢
      refine (l9Word_any (w.heap.size + 1) b s7 V7 HF.out.2.2.2.1).mono ?_
      rw [H8.out.1, H8.out.2]
      rintro e U8 ⟨rfl, ht⟩
      obtain ⟨hx, hv0, hb0, hrd, zX, z1⟩ := HF.out
      clear HF hrd
      replace hx := (ht.only.block X zX (by simp; omega)).trans hx
      replace hv0 := (ht.only.block w.heap.size (by omega) (by simp)).trans hv0
      replace hb0 : Below w.heap.size w U8 := Rep.Only.below hb0 ht.only hb0.size (fun a ha => by simp at ha; omega)
      replace zX : X < U8.heap.size := Nat.lt_of_lt_of_le zX ht.only.size
      have d7 := var_cell hx 7
      have f7 := var_frozen hx 7
      have HF := Lib.hid (And.intro hx (And.intro hv0 (And.intro hb0 (And.intro ht.at_ (And.intro zX z1)))))
      clear hx hv0 hb0 zX z1 ht
      go_wp2_with fail
      clear d7 f7
      obtain ⟨hx, hv0, hb0, hrd, zX, z1⟩ := HF.out
      clear HF
      have ho := set_only U8 X 7 (.int .i64 v8)
      replace hx : (U8.setCell ⟨X, 7, none⟩ (.int .i64 v8)).heap[X]? = some (.cells #[.int .i64 v0, .int .i64 v1, .string v3, .int .i64 v2, .int .i64 v4, .int .i64 (256 * v5 + v6), .string v7, .int .i64 v8, .int .i64 0, .int .i64 0, .string ⟨#[]⟩, .int .i64 0, .int .i64 0, .int .i64 0, .int .i64 0, .int .i64 0] 54 (0, 0)) := by have h9 := var_set hx 7 (.int .i64 v8); simpa using h9
      replace hv0 := (ho.block w.heap.size (by omega) (by simp; omega)).trans hv0
      replace hb0 : Below w.heap.size w (U8.setCell ⟨X, 7, none⟩ (.int .i64 v8)) := Rep.Only.below hb0 ho hb0.size (fun a ha => by simp at ha; omega)
      replace hrd := hrd.only ho (fun a ha => by simp at ha; omega)
      replace zX : X < (U8.setCell ⟨X, 7, none⟩ (.int .i64 v8)).heap.size := Nat.lt_of_lt_of_le zX ho.size
      clear ho
      have HF := Lib.hid (And.intro hx (And.intro hv0 (And.intro hb0 (And.intro hrd (And.intro zX z1)))))
      clear hx hv0 hb0 zX z1 hrd
      generalize U8.setCell ⟨X, 7, none⟩ (.int .i64 v8) = V8 at HF ⊢
      refine (l9Word_any (w.heap.size + 1) b s8 V8 HF.out.2.2.2.1).mono ?_
      rw [H9.out.1, H9.out.2]
      rintro e U9 ⟨rfl, ht⟩
      obtain ⟨hx, hv0, hb0, hrd, zX, z1⟩ := HF.out
      clear HF hrd
      replace hx := (ht.only.block X zX (by simp; omega)).trans hx
      replace hv0 := (ht.only.block w.heap.size (by omega) (by simp)).trans hv0
      replace hb0 : Below w.heap.size w U9 := Rep.Only.below hb0 ht.only hb0.size (fun a ha => by simp at ha; omega)
      replace zX : X < U9.heap.size := Nat.lt_of_lt_of_le zX ht.only.size
      have d8 := var_cell hx 8
      have f8 := var_frozen hx 8
      have HF := Lib.hid (And.intro hx (And.intro hv0 (And.intro hb0 (And.intro ht.at_ (And.intro zX z1)))))
      clear hx hv0 hb0 zX z1 ht
      go_wp2_with fail
      clear d8 f8
      obtain ⟨hx, hv0, hb0, hrd, zX, z1⟩ := HF.out
      clear HF
      have ho := set_only U9 X 8 (.int .i64 v9)
      replace hx : (U9.setCell ⟨X, 8, none⟩ (.int .i64 v9)).heap[X]? = some (.cells #[.int .i64 v0, .int .i64 v1, .string v3, .int .i64 v2, .int .i64 v4, .int .i64 (256 * v5 + v6), .string v7, .int .i64 v8, .int .i64 v9, .int .i64 0, .string ⟨#[]⟩, .int .i64 0, .int .i64 0, .int .i64 0, .int .i64 0, .int .i64 0] 54 (0, 0)) := by have h9 := var_set hx 8 (.int .i64 v9); simpa using h9
      replace hv0 := (ho.block w.heap.size (by omega) (by simp; omega)).trans hv0
      replace hb0 : Below w.heap.size w (U9.setCell ⟨X, 8, none⟩ (.int .i64 v9)) := Rep.Only.below hb0 ho hb0.size (fun a ha => by simp at ha; omega)
      replace hrd := hrd.only ho (fun a ha => by simp at ha; omega)
      replace zX : X < (U9.setCell ⟨X, 8, none⟩ (.int .i64 v9)).heap.size := Nat.lt_of_lt_of_le zX ho.size
      clear ho
      have HF := Lib.hid (And.intro hx (And.intro hv0 (And.intro hb0 (And.intro hrd (And.intro zX z1)))))
      clear hx hv0 hb0 zX z1 hrd
      generalize U9.setCell ⟨X, 8, none⟩ (.int .i64 v9) = V9 at HF ⊢
      go_meet
      case rel => exact AfterS.mk (x := ⟨v0, ⟨v1, v3, v2, v4, (256 * v5 + v6), v7, v8, v9⟩, lnZero⟩) HF.out.1 HF.out.2.1 HF.out.2.2.1 HF.out.2.2.2.1 HX.out
    · as_aux_lemma =>
      have hk0 : (v0 == 1) = false := by simp [hk]
      have HKK := Lib.hid (show ¬ (sB (b, false)).1 = 1 by rw [H0.out.1]; exact hk)
      clear hk
      obtain ⟨v1, hv⟩ : ∃ v, (sW s0).1 = v := ⟨_, rfl⟩
      obtain ⟨s1, hl⟩ : ∃ l, (sW s0).2 = l := ⟨_, rfl⟩
      have H1 := Lib.hid (And.intro hv hl)
      clear hv hl
      obtain ⟨v2, hv⟩ : ∃ v, (sB s1).1 = v := ⟨_, rfl⟩
      obtain ⟨s2, hl⟩ : ∃ l, (sB s1).2 = l := ⟨_, rfl⟩
      have H2 := Lib.hid (And.intro hv hl)
      clear hv hl
      obtain ⟨v3, hv⟩ : ∃ v, (sT s2).1 = v := ⟨_, rfl⟩
      obtain ⟨s3, hl⟩ : ∃ l, (sT s2).2 = l := ⟨_, rfl⟩
      have H3 := Lib.hid (And.intro hv hl)
      clear hv hl
      obtain ⟨v4, hv⟩ : ∃ v, (sW s3).1 = v := ⟨_, rfl⟩
      obtain ⟨s4, hl⟩ : ∃ l, (sW s3).2 = l := ⟨_, rfl⟩
      have H4 := Lib.hid (And.intro hv hl)
      clear hv hl
      obtain ⟨v5, hv⟩ : ∃ v, (sW s4).1 = v := ⟨_, rfl⟩
      obtain ⟨s5, hl⟩ : ∃ l, (sW s4).2 = l := ⟨_, rfl⟩
      have H5 := Lib.hid (And.intro hv hl)
      clear hv hl
      have hw5 : 0 ≤ v5 ∧ v5 ≤ 65535 := by rw [← H5.out.1]; exact sW_bd _
      obtain ⟨wa, wb⟩ := hw5
      obtain ⟨v6, hv⟩ : ∃ v, (sB s5).1 = v := ⟨_, rfl⟩
      obtain ⟨s6, hl⟩ : ∃ l, (sB s5).2 = l := ⟨_, rfl⟩
      have H6 := Lib.hid (And.intro hv hl)
      clear hv hl
      have hw6 : 0 ≤ v6 ∧ v6 ≤ 255 := by rw [← H6.out.1]; exact sB_bd _
      obtain ⟨ba, bb⟩ := hw6
      obtain ⟨v7, hv⟩ : ∃ v, (sW s6).1 = v := ⟨_, rfl⟩
      obtain ⟨s7, hl⟩ : ∃ l, (sW s6).2 = l := ⟨_, rfl⟩
      have H7 := Lib.hid (And.intro hv hl)
      clear hv hl
      obtain ⟨v8, hv⟩ : ∃ v, (sW s7).1 = v := ⟨_, rfl⟩
      obtain ⟨s8, hl⟩ : ∃ l, (sW s7).2 = l := ⟨_, rfl⟩
      have H8 := Lib.hid (And.intro hv hl)
      clear hv hl
      have HX := Lib.hid (show sIt b = (⟨v0, akZero, ⟨v1, v3, v4, v2, (256 * v5 + v6), v7, v8⟩⟩, s8.2) from by unfold sIt sLn sM; dsimp only; rw [if_neg HKK.out]; simp only [H0.out.1, H0.out.2, H1.out.1, H1.out.2, H2.out.1, H2.out.2, H3.out.1, H3.out.2, H4.out.1, H4.out.2, H5.out.1, H5.out.2, H6.out.1, H6.out.2, H7.out.1, H7.out.2, H8.out.1, H8.out.2])
      go_wp2_with fail
      refine (l9Word_any (w.heap.size + 1) b s0 V0 HF.out.2.2.2.1).mono ?_
      rw [H1.out.1, H1.out.2]
      rintro e U1 ⟨rfl, ht⟩
      obtain ⟨hx, hv0, hb0, hrd, zX, z1⟩ := HF.out
      clear HF hrd
      replace hx := (ht.only.block X zX (by simp; omega)).trans hx
      replace hv0 := (ht.only.block w.heap.size (by omega) (by simp)).trans hv0
      replace hb0 : Below w.heap.size w U1 := Rep.Only.below hb0 ht.only hb0.size (fun a ha => by simp at ha; omega)
      replace zX : X < U1.heap.size := Nat.lt_of_lt_of_le zX ht.only.size
      have d9 := var_cell hx 9
      have f9 := var_frozen hx 9
      have HF := Lib.hid (And.intro hx (And.intro hv0 (And.intro hb0 (And.intro ht.at_ (And.intro zX z1)))))
      clear hx hv0 hb0 zX z1 ht
      go_wp2_with fail
      clear d9 f9
      obtain ⟨hx, hv0, hb0, hrd, zX, z1⟩ := HF.out
      clear HF
      have ho := set_only U1 X 9 (.int .i64 v1)
      replace hx : (U1.setCell ⟨X, 9, none⟩ (.int .i64 v1)).heap[X]? = some (.cells #[.int .i64 v0, .int .i64 0, .string ⟨#[]⟩, .int .i64 0, .int .i64 0, .int .i64 0, .string ⟨#[]⟩, .int .i64 0, .int .i64 0, .int .i64 v1, .string ⟨#[]⟩, .int .i64 0, .int .i64 0, .int .i64 0, .int .i64 0, .int .i64 0] 54 (0, 0)) := by have h9 := var_set hx 9 (.int .i64 v1); simpa using h9
      replace hv0 := (ho.block w.heap.size (by omega) (by simp; omega)).trans hv0
      replace hb0 : Below w.heap.size w (U1.setCell ⟨X, 9, none⟩ (.int .i64 v1)) := Rep.Only.below hb0 ho hb0.size (fun a ha => by simp at ha; omega)
      replace hrd := hrd.only ho (fun a ha => by simp at ha; omega)
      replace zX : X < (U1.setCell ⟨X, 9, none⟩ (.int .i64 v1)).heap.size := Nat.lt_of_lt_of_le zX ho.size
      clear ho
      have HF := Lib.hid (And.intro hx (And.intro hv0 (And.intro hb0 (And.intro hrd (And.intro zX z1)))))
      clear hx hv0 hb0 zX z1 hrd
      generalize U1.setCell ⟨X, 9, none⟩ (.int .i64 v1) = V1 at HF ⊢
      refine (l9Byte_any (w.heap.size + 1) b s1 V1 HF.out.2.2.2.1).mono ?_
      rw [H2.out.1, H2.out.2]
      rintro e U2 ⟨rfl, ht⟩
      obtain ⟨hx, hv0, hb0, hrd, zX, z1⟩ := HF.out
      clear HF hrd
      replace hx := (ht.only.block X zX (by simp; omega)).trans hx
      replace hv0 := (ht.only.block w.heap.size (by omega) (by simp)).trans hv0
      replace hb0 : Below w.heap.size w U2 := Rep.Only.below hb0 ht.only hb0.size (fun a ha => by simp at ha; omega)
      replace zX : X < U2.heap.size := Nat.lt_of_lt_of_le zX ht.only.size
      have d12 := var_cell hx 12
      have f12 := var_frozen hx 12
      have HF := Lib.hid (And.intro hx (And.intro hv0 (And.intro hb0 (And.intro ht.at_ (And.intro zX z1)))))
      clear hx hv0 hb0 zX z1 ht
      go_wp2_with fail
      clear d12 f12
      obtain ⟨hx, hv0, hb0, hrd, zX, z1⟩ := HF.out
      clear HF
      have ho := set_only U2 X 12 (.int .i64 v2)
      replace hx : (U2.setCell ⟨X, 12, none⟩ (.int .i64 v2)).heap[X]? = some (.cells #[.int .i64 v0, .int .i64 0, .string ⟨#[]⟩, .int .i64 0, .int .i64 0, .int .i64 0, .string ⟨#[]⟩, .int .i64 0, .int .i64 0, .int .i64 v1, .string ⟨#[]⟩, .int .i64 0, .int .i64 v2, .int .i64 0, .int .i64 0, .int .i64 0] 54 (0, 0)) := by have h9 := var_set hx 12 (.int .i64 v2); simpa using h9
      replace hv0 := (ho.block w.heap.size (by omega) (by simp; omega)).trans hv0
      replace hb0 : Below w.heap.size w (U2.setCell ⟨X, 12, none⟩ (.int .i64 v2)) := Rep.Only.below hb0 ho hb0.size (fun a ha => by simp at ha; omega)
      replace hrd := hrd.only ho (fun a ha => by simp at ha; omega)
      replace zX : X < (U2.setCell ⟨X, 12, none⟩ (.int .i64 v2)).heap.size := Nat.lt_of_lt_of_le zX ho.size
      clear ho
      have HF := Lib.hid (And.intro hx (And.intro hv0 (And.intro hb0 (And.intro hrd (And.intro zX z1)))))
      clear hx hv0 hb0 zX z1 hrd
      generalize U2.setCell ⟨X, 12, none⟩ (.int .i64 v2) = V2 at HF ⊢
      as_aux_lemma =>
      refine (l9Text_any (w.heap.size + 1) b s2 V2 HF.out.2.2.2.1).mono ?_
      rw [H3.out.1, H3.out.2]
      rintro e U3 ⟨rfl, ht⟩
      obtain ⟨hx, hv0, hb0, hrd, zX, z1⟩ := HF.out
      clear HF hrd
      replace hx := (ht.only.block X zX (by simp; omega)).trans hx
      replace hv0 := (ht.only.block w.heap.size (by omega) (by simp)).trans hv0
      replace hb0 : Below w.heap.size w U3 := Rep.Only.below hb0 ht.only hb0.size (fun a ha => by simp at ha; omega)
      replace zX : X < U3.heap.size := Nat.lt_of_lt_of_le zX ht.only.size
      have d10 := var_cell hx 10
      have f10 := var_frozen hx 10
      have HF := Lib.hid (And.intro hx (And.intro hv0 (And.intro hb0 (And.intro ht.at_ (And.intro zX z1)))))
      clear hx hv0 hb0 zX z1 ht
      go_wp2_with fail
      clear d10 f10
      obtain ⟨hx, hv0, hb0, hrd, zX, z1⟩ := HF.out
      clear HF
      have ho := set_only U3 X 10 (.string v3)
      replace hx : (U3.setCell ⟨X, 10, none⟩ (.string v3)).heap[X]? = some (.cells #[.int .i64 v0, .int .i64 0, .string ⟨#[]⟩, .int .i64 0, .int .i64 0, .int .i64 0, .string ⟨#[]⟩, .int .i64 0, .int .i64 0, .int .i64 v1, .string v3, .int .i64 0, .int .i64 v2, .int .i64 0, .int .i64 0, .int .i64 0] 54 (0, 0)) := by have h9 := var_set hx 10 (.string v3); simpa using h9
      replace hv0 := (ho.block w.heap.size (by omega) (by simp; omega)).trans hv0
      replace hb0 : Below w.heap.size w (U3.setCell ⟨X, 10, none⟩ (.string v3)) := Rep.Only.below hb0 ho hb0.size (fun a ha => by simp at ha; omega)
      replace hrd := hrd.only ho (fun a ha => by simp at ha; omega)
      replace zX : X < (U3.setCell ⟨X, 10, none⟩ (.string v3)).heap.size := Nat.lt_of_lt_of_le zX ho.size
      clear ho
      have HF := Lib.hid (And.intro hx (And.intro hv0 (And.intro hb0 (And.intro hrd (And.intro zX z1)))))
      clear hx hv0 hb0 zX z1 hrd
      generalize U3.setCell ⟨X, 10, none⟩ (.string v3) = V3 at HF ⊢
      refine (l9Word_any (w.heap.size + 1) b s3 V3 HF.out.2.2.2.1).mono ?_
      rw [H4.out.1, H4.out.2]
      rintro e U4 ⟨rfl, ht⟩
      obtain ⟨hx, hv0, hb0, hrd, zX, z1⟩ := HF.out
      clear HF hrd
      replace hx := (ht.only.block X zX (by simp; omega)).trans hx
      replace hv0 := (ht.only.block w.heap.size (by omega) (by simp)).trans hv0
      replace hb0 : Below w.heap.size w U4 := Rep.Only.below hb0 ht.only hb0.size (fun a ha => by simp at ha; omega)
      replace zX : X < U4.heap.size := Nat.lt_of_lt_of_le zX ht.only.size
      have d11 := var_cell hx 11
      have f11 := var_frozen hx 11
      have HF := Lib.hid (And.intro hx (And.intro hv0 (And.intro hb0 (And.intro ht.at_ (And.intro zX z1)))))
      clear hx hv0 hb0 zX z1 ht
      go_wp2_with fail
      clear d11 f11
      obtain ⟨hx, hv0, hb0, hrd, zX, z1⟩ := HF.out
      clear HF
      have ho := set_only U4 X 11 (.int .i64 v4)
      replace hx : (U4.setCell ⟨X, 11, none⟩ (.int .i64 v4)).heap[X]? = some (.cells #[.int .i64 v0, .int .i64 0, .string ⟨#[]⟩, .int .i64 0, .int .i64 0, .int .i64 0, .string ⟨#[]⟩, .int .i64 0, .int .i64 0, .int .i64 v1, .string v3, .int .i64 v4, .int .i64 v2, .int .i64 0, .int .i64 0, .int .i64 0] 54 (0, 0)) := by have h9 := var_set hx 11 (.int .i64 v4); simpa using h9
      replace hv0 := (ho.block w.heap.size (by omega) (by simp; omega)).trans hv0
      replace hb0 : Below w.heap.size w (U4.setCell ⟨X, 11, none⟩ (.int .i64 v4)) := Rep.Only.below hb0 ho hb0.size (fun a ha => by simp at ha; omega)
      replace hrd := hrd.only ho (fun a ha => by simp at ha; omega)
      replace zX : X < (U4.setCell ⟨X, 11, none⟩ (.int .i64 v4)).heap.size := Nat.lt_of_lt_of_le zX ho.size
      clear ho
      have HF := Lib.hid (And.intro hx (And.intro hv0 (And.intro hb0 (And.intro hrd (And.intro zX z1)))))
      clear hx hv0 hb0 zX z1 hrd
      generalize U4.setCell ⟨X, 11, none⟩ (.int .i64 v4) = V4 at HF ⊢
      as_aux_lemma =>
      refine (l9Word_any (w.heap.size + 1) b s4 V4 HF.out.2.2.2.1).mono ?_
      rw [H5.out.1, H5.out.2]
      rintro e U5 ⟨rfl, ht⟩
      obtain ⟨hx, hv0, hb0, hrd, zX, z1⟩ := HF.out
      clear HF hrd
      replace hx := (ht.only.block X zX (by simp; omega)).trans hx
      replace hv0 := (ht.only.block w.heap.size (by omega) (by simp)).trans hv0
      replace hb0 : Below w.heap.size w U5 := Rep.Only.below hb0 ht.only hb0.size (fun a ha => by simp at ha; omega)
      replace zX : X < U5.heap.size := Nat.lt_of_lt_of_le zX ht.only.size
      have d13 := var_cell hx 13
      have f13 := var_frozen hx 13
      have HF := Lib.hid (And.intro hx (And.intro hv0 (And.intro hb0 (And.intro ht.at_ (And.intro zX z1)))))
      clear hx hv0 hb0 zX z1 ht
      go_upto_region 18 with (fail)
      clear d13 f13
      obtain ⟨hx, hv0, hb0, hrd, zX, z1⟩ := HF.out
      clear HF
      have ho := set_only U5 X 13 (.int .i64 (256 * v5))
      replace hx : (U5.setCell ⟨X, 13, none⟩ (.int .i64 (256 * v5))).heap[X]? = some (.cells #[.int .i64 v0, .int .i64 0, .string ⟨#[]⟩, .int .i64 0, .int .i64 0, .int .i64 0, .string ⟨#[]⟩, .int .i64 0, .int .i64 0, .int .i64 v1, .string v3, .int .i64 v4, .int .i64 v2, .int .i64 (256 * v5), .int .i64 0, .int .i64 0] 54 (0, 0)) := by have h9 := var_set hx 13 (.int .i64 (256 * v5)); simpa using h9
      replace hv0 := (ho.block w.heap.size (by omega) (by simp; omega)).trans hv0
      replace hb0 : Below w.heap.size w (U5.setCell ⟨X, 13, none⟩ (.int .i64 (256 * v5))) := Rep.Only.below hb0 ho hb0.size (fun a ha => by simp at ha; omega)
      replace hrd := hrd.only ho (fun a ha => by simp at ha; omega)
      replace zX : X < (U5.setCell ⟨X, 13, none⟩ (.int .i64 (256 * v5))).heap.size := Nat.lt_of_lt_of_le zX ho.size
      clear ho
      have HF := Lib.hid (And.intro hx (And.intro hv0 (And.intro hb0 (And.intro hrd (And.intro zX z1)))))
      clear hx hv0 hb0 zX z1 hrd
      generalize U5.setCell ⟨X, 13, none⟩ (.int .i64 (256 * v5)) = V5 at HF ⊢
      have T : All (fun w' => Below V5.heap.size V5 w' ∧ (w'.heap[X]? = some (.cells #[.int .i64 v0, .int .i64 0, .string ⟨#[]⟩, .int .i64 0, .int .i64 0, .int .i64 0, .string ⟨#[]⟩, .int .i64 0, .int .i64 0, .int .i64 v1, .string v3, .int .i64 v4, .int .i64 v2, .int .i64 (256 * v5), .int .i64 0, .int .i64 0] 54 (0, 0)))) V5 := ⟨Below.refl _ _, HF.out.1⟩
      refine wp_region_open 8 (fun w' => w'.heap[X]? = some (.cells #[.int .i64 v0, .int .i64 0, .string ⟨#[]⟩, .int .i64 0, .int .i64 0, .int .i64 0, .string ⟨#[]⟩, .int .i64 0, .int .i64 0, .int .i64 v1, .string v3, .int .i64 v4, .int .i64 v2, .int .i64 (256 * v5), .int .i64 0, .int .i64 0] 54 (0, 0))) (by kernel_rfl) ?_
      replace T := T.drew
      have hdr := Later.drew V5
      obtain ⟨hx, hv0, hb0, hrd, zX, z1⟩ := HF.out
      clear HF
      replace hv0 := (hdr.block w.heap.size (by omega)).trans hv0
      replace hb0 := Later.trans hb0 hdr
      replace hrd := hrd.below hdr
      replace zX := Nat.lt_of_lt_of_le zX hdr.size
      clear hdr hx
      generalize V5.drew = D5 at T hv0 hb0 hrd zX ⊢
      have hwr : IntKind.i64.wrap (256 * v5 + v6) = 256 * v5 + v6 := IntWalk.i64_in _ (by omega)
      refine wpAnyL_readsG [0, 1, 2, 3] (fuel := 5) (by kernel_rfl) T.out.2 ?_
      refine LexRG.yes rfl (by first | rfl | (simp [Region.wanted, yielded]; done)) ?_ (fun w' hw => ?_) ?_
      rotate_left
      focus (clear hw; go_simp; (try exact rfl))
      try go_frame
      refine LexRG.yes rfl (by first | rfl | (simp [Region.wanted, yielded]; done)) ?_ (fun w' hw => ?_) ?_
      rotate_left
      focus (clear hw; go_simp; (try exact rfl))
      try go_frame
      refine LexRG.yes rfl (by first | rfl | (simp [Region.wanted, yielded]; done)) ?_ (fun w' hw => ?_) ?_
      rotate_left
      focus (have c9 := var_cell hw 13; clear hw; go_simp; (try exact rfl))
      try go_frame
      refine LexRG.yes rfl (by first | rfl | (simp [Region.wanted, yielded]; done)) ?_ (fun w' hw => ?_) ?_
      rotate_left
      focus (clear hw; go_simp; (try exact rfl))
      try go_frame
      refine LexRG.nil ?_
      refine wpAnyL_one (i := 4) (by kernel_rfl) ?_
      refine lexA_get rfl ?_
      try go_frame
      go_wp2_with fail
      refine (l9Byte_any (w.heap.size + 1) b s5 D5 hrd).mono ?_
      rw [H6.out.1, H6.out.2]
      rintro e U6 ⟨rfl, ht⟩
      have hx := (ht.only.block X zX (by simp; omega)).trans T.out.2
      clear T
      replace hv0 := (ht.only.block w.heap.size (by omega) (by simp)).trans hv0
      replace hb0 : Below w.heap.size w U6 := Rep.Only.below hb0 ht.only hb0.size (fun a ha => by simp at ha; omega)
      replace zX : X < U6.heap.size := Nat.lt_of_lt_of_le zX ht.only.size
      replace hrd := ht.at_
      clear ht
      have T : All (fun w' => Below U6.heap.size U6 w' ∧ (w'.heap[X]? = some (.cells #[.int .i64 v0, .int .i64 0, .string ⟨#[]⟩, .int .i64 0, .int .i64 0, .int .i64 0, .string ⟨#[]⟩, .int .i64 0, .int .i64 0, .int .i64 v1, .string v3, .int .i64 v4, .int .i64 v2, .int .i64 (256 * v5), .int .i64 0, .int .i64 0] 54 (0, 0)))) U6 := ⟨Below.refl _ _, hx⟩
      go_wp2_with fail
      refine ⟨fun _ => T.out.2, ?_⟩
      refine wpAnyL_readsG [5] (fuel := 3) (by kernel_rfl) T.out.2 ?_
      refine LexRG.yes rfl (by first | rfl | (simp [Region.wanted, yielded]; done)) ?_ (fun w' hw => ?_) ?_
      rotate_left
      focus (clear hw; go_simp; (try exact rfl))
      try go_frame
      refine LexRG.nil ?_
      refine wpAnyL_writes [6, 7, 8] (by kernel_rfl) (LexW.cons rfl ?_)
      try go_frame
      go_wp2_with fail
      refine ⟨fun _ => T.out.2, LexW.cons rfl ?_⟩
      try go_frame
      go_wp2_with fail
      refine ⟨fun _ => T.out.2, LexW.cons rfl ?_⟩
      try go_frame
      have d13 := var_cell hx 13
      have f13 := var_frozen hx 13
      go_wp2_with fail
      refine ⟨fun h => absurd rfl h, LexW.nil ?_⟩
      clear d13 f13 T hwr
      have HF := Lib.hid (And.intro hx (And.intro hv0 (And.intro hb0 (And.intro hrd (And.intro zX z1)))))
      clear hx hv0 hb0 zX z1 hrd
      obtain ⟨hx, hv0, hb0, hrd, zX, z1⟩ := HF.out
      clear HF
      have ho := set_only U6 X 13 (.int .i64 (256 * v5 + v6))
      replace hx : (U6.setCell ⟨X, 13, none⟩ (.int .i64 (256 * v5 + v6))).heap[X]? = some (.cells #[.int .i64 v0, .int .i64 0, .string ⟨#[]⟩, .int .i64 0, .int .i64 0, .int .i64 0, .string ⟨#[]⟩, .int .i64 0, .int .i64 0, .int .i64 v1, .string v3, .int .i64 v4, .int .i64 v2, .int .i64 (256 * v5 + v6), .int .i64 0, .int .i64 0] 54 (0, 0)) := by have h9 := var_set hx 13 (.int .i64 (256 * v5 + v6)); simpa using h9
      replace hv0 := (ho.block w.heap.size (by omega) (by simp; omega)).trans hv0
      replace hb0 : Below w.heap.size w (U6.setCell ⟨X, 13, none⟩ (.int .i64 (256 * v5 + v6))) := Rep.Only.below hb0 ho hb0.size (fun a ha => by simp at ha; omega)
      replace hrd := hrd.only ho (fun a ha => by simp at ha; omega)
      replace zX : X < (U6.setCell ⟨X, 13, none⟩ (.int .i64 (256 * v5 + v6))).heap.size := Nat.lt_of_lt_of_le zX ho.size
      clear ho
      have HF := Lib.hid (And.intro hx (And.intro hv0 (And.intro hb0 (And.intro hrd (And.intro zX z1)))))
      clear hx hv0 hb0 zX z1 hrd
      generalize U6.setCell ⟨X, 13, none⟩ (.int .i64 (256 * v5 + v6)) = V6 at HF ⊢
      as_aux_lemma =>
      go_wp2_with fail
      refine (l9Word_any (w.heap.size + 1) b s6 V6 HF.out.2.2.2.1).mono ?_
      rw [H7.out.1, H7.out.2]
      rintro e U7 ⟨rfl, ht⟩
      obtain ⟨hx, hv0, hb0, hrd, zX, z1⟩ := HF.out
      clear HF hrd
      replace hx := (ht.only.block X zX (by simp; omega)).trans hx
      replace hv0 := (ht.only.block w.heap.size (by omega) (by simp)).trans hv0
      replace hb0 : Below w.heap.size w U7 := Rep.Only.below hb0 ht.only hb0.size (fun a ha => by simp at ha; omega)
      replace zX : X < U7.heap.size := Nat.lt_of_lt_of_le zX ht.only.size
      have d14 := var_cell hx 14
      have f14 := var_frozen hx 14
      have HF := Lib.hid (And.intro hx (And.intro hv0 (And.intro hb0 (And.intro ht.at_ (And.intro zX z1)))))
      clear hx hv0 hb0 zX z1 ht
      go_wp2_with fail
      clear d14 f14
      obtain ⟨hx, hv0, hb0, hrd, zX, z1⟩ := HF.out
      clear HF
      have ho := set_only U7 X 14 (.int .i64 v7)
      replace hx : (U7.setCell ⟨X, 14, none⟩ (.int .i64 v7)).heap[X]? = some (.cells #[.int .i64 v0, .int .i64 0, .string ⟨#[]⟩, .int .i64 0, .int .i64 0, .int .i64 0, .string ⟨#[]⟩, .int .i64 0, .int .i64 0, .int .i64 v1, .string v3, .int .i64 v4, .int .i64 v2, .int .i64 (256 * v5 + v6), .int .i64 v7, .int .i64 0] 54 (0, 0)) := by have h9 := var_set hx 14 (.int .i64 v7); simpa using h9
      replace hv0 := (ho.block w.heap.size (by omega) (by simp; omega)).trans hv0
      replace hb0 : Below w.heap.size w (U7.setCell ⟨X, 14, none⟩ (.int .i64 v7)) := Rep.Only.below hb0 ho hb0.size (fun a ha => by simp at ha; omega)
      replace hrd := hrd.only ho (fun a ha => by simp at ha; omega)
      replace zX : X < (U7.setCell ⟨X, 14, none⟩ (.int .i64 v7)).heap.size := Nat.lt_of_lt_of_le zX ho.size
      clear ho
      have HF := Lib.hid (And.intro hx (And.intro hv0 (And.intro hb0 (And.intro hrd (And.intro zX z1)))))
      clear hx hv0 hb0 zX z1 hrd
      generalize U7.setCell ⟨X, 14, none⟩ (.int .i64 v7) = V7 at HF ⊢
      refine (l9Word_any (w.heap.size + 1) b s7 V7 HF.out.2.2.2.1).mono ?_
      rw [H8.out.1, H8.out.2]
      rintro e U8 ⟨rfl, ht⟩
      obtain ⟨hx, hv0, hb0, hrd, zX, z1⟩ := HF.out
      clear HF hrd
      replace hx := (ht.only.block X zX (by simp; omega)).trans hx
      replace hv0 := (ht.only.block w.heap.size (by omega) (by simp)).trans hv0
      replace hb0 : Below w.heap.size w U8 := Rep.Only.below hb0 ht.only hb0.size (fun a ha => by simp at ha; omega)
      replace zX : X < U8.heap.size := Nat.lt_of_lt_of_le zX ht.only.size
      have d15 := var_cell hx 15
      have f15 := var_frozen hx 15
      have HF := Lib.hid (And.intro hx (And.intro hv0 (And.intro hb0 (And.intro ht.at_ (And.intro zX z1)))))
      clear hx hv0 hb0 zX z1 ht
      go_wp2_with fail
      clear d15 f15
      obtain ⟨hx, hv0, hb0, hrd, zX, z1⟩ := HF.out
      clear HF
      have ho := set_only U8 X 15 (.int .i64 v8)
      replace hx : (U8.setCell ⟨X, 15, none⟩ (.int .i64 v8)).heap[X]? = some (.cells #[.int .i64 v0, .int .i64 0, .string ⟨#[]⟩, .int .i64 0, .int .i64 0, .int .i64 0, .string ⟨#[]⟩, .int .i64 0, .int .i64 0, .int .i64 v1, .string v3, .int .i64 v4, .int .i64 v2, .int .i64 (256 * v5 + v6), .int .i64 v7, .int .i64 v8] 54 (0, 0)) := by have h9 := var_set hx 15 (.int .i64 v8); simpa using h9
      replace hv0 := (ho.block w.heap.size (by omega) (by simp; omega)).trans hv0
      replace hb0 : Below w.heap.size w (U8.setCell ⟨X, 15, none⟩ (.int .i64 v8)) := Rep.Only.below hb0 ho hb0.size (fun a ha => by simp at ha; omega)
      replace hrd := hrd.only ho (fun a ha => by simp at ha; omega)
      replace zX : X < (U8.setCell ⟨X, 15, none⟩ (.int .i64 v8)).heap.size := Nat.lt_of_lt_of_le zX ho.size
      clear ho
      have HF := Lib.hid (And.intro hx (And.intro hv0 (And.intro hb0 (And.intro hrd (And.intro zX z1)))))
      clear hx hv0 hb0 zX z1 hrd
      generalize U8.setCell ⟨X, 15, none⟩ (.int .i64 v8) = V8 at HF ⊢
      go_meet
      case rel => exact AfterS.mk (x := ⟨v0, akZero, ⟨v1, v3, v4, v2, (256 * v5 + v6), v7, v8⟩⟩) HF.out.1 HF.out.2.1 HF.out.2.2.1 HF.out.2.2.2.1 HX.out
  clear HF
  obtain ⟨x, bd, A9, c9, p9, hxx, hb0, hv0, hbx, hx⟩ := hcut
  obtain ⟨V9, rfl⟩ : ∃ wo : World, wo = wc := ⟨_, rfl⟩
  have hfit : FitsIt x := by have h9 : (sIt b).1 = x := by rw [hxx]
                             rw [← h9]; exact fits_sIt b
  have HX2 := Lib.hid hxx
  clear hxx
  go_upto_region 21 with (fail)
  have T : All (fun w' => (Below w.heap.size w w' ∧ w'.heap[w.heap.size]? = some (.cells #[.int .i64 0, .int .i64 0, .string ⟨#[]⟩, .int .i64 0, .int .i64 0, .int .i64 0, .string ⟨#[]⟩, .int .i64 0, .int .i64 0, .int .i64 0, .string ⟨#[]⟩, .int .i64 0, .int .i64 0, .int .i64 0, .int .i64 0, .int .i64 0] 54 (0, 0))) ∧ (w'.heap[w.heap.size + 1]? = some (.cells #[.slice A9 b.length c9, .int .i64 p9, .bool bd] 141 (0, 0)) ∧ w'.heap[X]? = some (.cells #[.int .i64 x.kind, .int .i64 x.a.sock, .string x.a.db, .int .i64 x.a.st, .int .i64 x.a.ticket, .int .i64 x.a.since, .string x.a.q, .int .i64 x.a.line, .int .i64 x.a.lease, .int .i64 x.l.sock, .string x.l.db, .int .i64 x.l.gen, .int .i64 x.l.st, .int .i64 x.l.since, .int .i64 x.l.asker, .int .i64 x.l.lease] 54 (0, 0)))) V9 := ⟨⟨hb0, hv0⟩, hbx, hx⟩
  clear hx hv0 hb0 hbx
  obtain ⟨L, hL⟩ : ∃ L, itemB x = L := ⟨_, rfl⟩
  have HL := Lib.hid hL
  clear hL
  cases bd
  · skip
    have h9 := HC.out
    rw [HX2.out] at h9
    cases h9
  · skip
    have k2 := var_cell T.out.2.1 2
    have hpp := HG.out.symm.trans (by rw [HX2.out, if_pos (.inl rfl)])
    obtain rfl : gx = itZero := congrArg Prod.fst hpp
    obtain rfl : gb = false := congrArg Prod.snd hpp
    clear hpp
    go_upto_region 22 with (fail)
    have d0 := var_cell T.out.1.2 0
    have f0 := var_frozen T.out.1.2 0
    have d1 := var_cell T.out.1.2 1
    have f1 := var_frozen T.out.1.2 1
    have d2 := var_cell T.out.1.2 2
    have f2 := var_frozen T.out.1.2 2
    have d3 := var_cell T.out.1.2 3
    have f3 := var_frozen T.out.1.2 3
    have d4 := var_cell T.out.1.2 4
    have f4 := var_frozen T.out.1.2 4
    have d5 := var_cell T.out.1.2 5
    have f5 := var_frozen T.out.1.2 5
    have d6 := var_cell T.out.1.2 6
    have f6 := var_frozen T.out.1.2 6
    have d7 := var_cell T.out.1.2 7
    have f7 := var_frozen T.out.1.2 7
    have d8 := var_cell T.out.1.2 8
    have f8 := var_frozen T.out.1.2 8
    have d9 := var_cell T.out.1.2 9
    have f9 := var_frozen T.out.1.2 9
    have d10 := var_cell T.out.1.2 10
    have f10 := var_frozen T.out.1.2 10
    have d11 := var_cell T.out.1.2 11
    have f11 := var_frozen T.out.1.2 11
    have d12 := var_cell T.out.1.2 12
    have f12 := var_frozen T.out.1.2 12
    have d13 := var_cell T.out.1.2 13
    have f13 := var_frozen T.out.1.2 13
    have d14 := var_cell T.out.1.2 14
    have f14 := var_frozen T.out.1.2 14
    have d15 := var_cell T.out.1.2 15
    have f15 := var_frozen T.out.1.2 15
    go_wp2_with fail
    clear d0 f0 d1 f1 d2 f2 d3 f3 d4 f4 d5 f5 d6 f6 d7 f7 d8 f8 d9 f9 d10 f10 d11 f11 d12 f12 d13 f13 d14 f14 d15 f15
    have hb := setRow_box 0 [.int .i64 0, .int .i64 0, .string ⟨#[]⟩, .int .i64 0, .int .i64 0, .int .i64 0, .string ⟨#[]⟩, .int .i64 0, .int .i64 0, .int .i64 0, .string ⟨#[]⟩, .int .i64 0, .int .i64 0, .int .i64 0, .int .i64 0, .int .i64 0] T.out.1.2
    replace hb : (Rep.setRow V9 w.heap.size 0 [.int .i64 0, .int .i64 0, .string ⟨#[]⟩, .int .i64 0, .int .i64 0, .int .i64 0, .string ⟨#[]⟩, .int .i64 0, .int .i64 0, .int .i64 0, .string ⟨#[]⟩, .int .i64 0, .int .i64 0, .int .i64 0, .int .i64 0, .int .i64 0]).heap[w.heap.size]? = some (.cells #[.int .i64 0, .int .i64 0, .string ⟨#[]⟩, .int .i64 0, .int .i64 0, .int .i64 0, .string ⟨#[]⟩, .int .i64 0, .int .i64 0, .int .i64 0, .string ⟨#[]⟩, .int .i64 0, .int .i64 0, .int .i64 0, .int .i64 0, .int .i64 0] 54 (0, 0)) := by simpa [putA] using hb
    have hf := Rep.setRow_below (g := w.heap.size) 0 [.int .i64 0, .int .i64 0, .string ⟨#[]⟩, .int .i64 0, .int .i64 0, .int .i64 0, .string ⟨#[]⟩, .int .i64 0, .int .i64 0, .int .i64 0, .string ⟨#[]⟩, .int .i64 0, .int .i64 0, .int .i64 0, .int .i64 0, .int .i64 0] T.out.1.1 (Nat.le_refl _)
    change bodyPost _ _ _ _ _ (Rep.setRow V9 w.heap.size 0 [.int .i64 0, .int .i64 0, .string ⟨#[]⟩, .int .i64 0, .int .i64 0, .int .i64 0, .string ⟨#[]⟩, .int .i64 0, .int .i64 0, .int .i64 0, .string ⟨#[]⟩, .int .i64 0, .int .i64 0, .int .i64 0, .int .i64 0, .int .i64 0])
    generalize Rep.setRow V9 w.heap.size 0 [.int .i64 0, .int .i64 0, .string ⟨#[]⟩, .int .i64 0, .int .i64 0, .int .i64 0, .string ⟨#[]⟩, .int .i64 0, .int .i64 0, .int .i64 0, .string ⟨#[]⟩, .int .i64 0, .int .i64 0, .int .i64 0, .int .i64 0, .int .i64 0] = Wz at hb hf ⊢
    exact bodyPost_ret (ret_item (D := w.heap.size) (cs := [.int .i64 0, .int .i64 0, .string ⟨#[]⟩, .int .i64 0, .int .i64 0, .int .i64 0, .string ⟨#[]⟩, .int .i64 0, .int .i64 0, .int .i64 0, .string ⟨#[]⟩, .int .i64 0, .int .i64 0, .int .i64 0, .int .i64 0, .int .i64 0]) (k := false) rfl rfl rfl hb rfl) rfl ⟨rfl, hf⟩

end Go.Proofs.Ytgdhhhibkhfdlaa
