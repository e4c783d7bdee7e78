/- GetItem of the program. (By gen_l9f.py.) -/
import Derived.Test.YtgdhhhibkhfdlaaGI0
import Derived.Test.YtgdhhhibkhfdlaaRetItem
import Derived.Deep.Cut
import Derived.Deep.CutBlock
namespace Go.Proofs.Ytgdhhhibkhfdlaa
open Go.RowKit
set_option linter.unusedVariables false
set_option linter.unusedSimpArgs false

def AfterI (w : World) (b : List UInt8) (X : Nat) (W' : World) : Prop := Below w.heap.size w W' ∧ W'.heap[X]? = some (.cells (itC (iIt b)).toArray 54 (0, 0)) ∧ W'.heap[w.heap.size]? = some (.cells #[.int .i64 0, .int .i64 0, .string ⟨#[]⟩, .int .i64 0, .int .i64 0, .int .i64 0, .string ⟨#[]⟩, .int .i64 0, .int .i64 0, .int .i64 0, .string ⟨#[]⟩, .int .i64 0, .int .i64 0, .int .i64 0, .int .i64 0, .int .i64 0] 54 (0, 0)) ∧ w.heap.size < X
set_option maxRecDepth 100000 in
set_option maxHeartbeats 16000000 in
theorem getItem_p (A : Option Addr) (c : Nat) (b : List UInt8) (w : World) (hr : Reads w w.heap.size 1 A b.length (bys b)) (hn : b.length ≤ 2000000) (hc : b.length ≤ c) (h0 : ¬ b.length = 0) (hk : True) :
    Calls Try.prog 35 #[.slice A b.length c] w (RetIt w (getI b)) := by
  have HR := Lib.hid hr
  clear hr
  have HKK := Lib.hid hk
  clear hk
  obtain ⟨⟨gx, gb⟩, hg⟩ : ∃ p, getI b = p := ⟨_, rfl⟩
  rw [hg]
  have HG := Lib.hid hg
  clear hg
  unfold RetIt
  dsimp only
  have h00 : ((b.length : Int) == 0) = false := by simp [h0]
  have H0 := Lib.hid h0
  clear h0
  obtain ⟨a0, ha0⟩ : ∃ a0, w.alloc (.cells #[.int .i64 0, .int .i64 0, .string ⟨#[]⟩, .int .i64 0, .int .i64 0, .int .i64 0, .string ⟨#[]⟩, .int .i64 0, .int .i64 0, .int .i64 0, .string ⟨#[]⟩, .int .i64 0, .int .i64 0, .int .i64 0, .int .i64 0, .int .i64 0] 54) = a0 := ⟨_, rfl⟩
  have s0 : a0.heap.size = w.heap.size + 1 := by rw [← ha0]; simp
  have hA := Later.alloc w (.cells #[.int .i64 0, .int .i64 0, .string ⟨#[]⟩, .int .i64 0, .int .i64 0, .int .i64 0, .string ⟨#[]⟩, .int .i64 0, .int .i64 0, .int .i64 0, .string ⟨#[]⟩, .int .i64 0, .int .i64 0, .int .i64 0, .int .i64 0, .int .i64 0] 54)
  have v0 := heap_alloc_new w (.cells #[.int .i64 0, .int .i64 0, .string ⟨#[]⟩, .int .i64 0, .int .i64 0, .int .i64 0, .string ⟨#[]⟩, .int .i64 0, .int .i64 0, .int .i64 0, .string ⟨#[]⟩, .int .i64 0, .int .i64 0, .int .i64 0, .int .i64 0, .int .i64 0] 54)
  rw [ha0] at hA v0
  obtain ⟨a1, ha1⟩ : ∃ a1, a0.alloc (.cells #[.slice A b.length c] 134) = a1 := ⟨_, rfl⟩
  have hB := Later.alloc a0 (.cells #[.slice A b.length c] 134)
  have v1 := heap_alloc_new a0 (.cells #[.slice A b.length c] 134)
  rw [ha1] at hB v1
  rw [s0] at v1
  replace v0 := (hB.block _ (by omega)).trans v0
  have hb0 : Below w.heap.size w a1 := Later.trans hA hB
  have h1 : RdA a1 (w.heap.size + 1) b := ⟨A, c, v1, ⟨hc, hn⟩, (HR.out.below hb0).more (by omega)⟩
  have HRD := Lib.hid h1
  have HV := Lib.hid v0
  have HB := Lib.hid hb0
  have HA0 := Lib.hid ha0
  have HA1 := Lib.hid ha1
  clear hA hB v0 v1 hb0 h1 s0 ha0 ha1
  go_enter Try.func35, Try.ntmps35
  go_wp2_with fail
  rw [HA0.out, HA1.out]
  clear HA0 HA1
  refine (rdOctet_any (w.heap.size + 1) b a1 HRD.out).mono ?_
  obtain ⟨v, hv⟩ : ∃ v, (iB b).1 = v := ⟨_, rfl⟩
  rw [hv]
  have HVV := Lib.hid (show oct b = v from hv)
  clear hv
  rintro e W1 ⟨rfl, ht⟩
  have z1 : w.heap.size + 1 < W1.heap.size := ht.at_.lt
  have hv1 := (ht.only.block w.heap.size (by have := HB.out.size; have := HRD.out.lt; omega) (by simp)).trans HV.out
  have hb1 : Below w.heap.size w W1 := Rep.Only.below HB.out ht.only HB.out.size (fun a ha => by simp at ha; omega)
  have hrd := ht.at_
  clear HV HB HRD ht
  have ha := Later.alloc W1 (.cells #[.int .i64 v, .int .i64 0, .string ⟨#[]⟩, .int .i64 0, .int .i64 0, .int .i64 0, .string ⟨#[]⟩, .int .i64 0, .int .i64 0, .int .i64 0, .string ⟨#[]⟩, .int .i64 0, .int .i64 0, .int .i64 0, .int .i64 0, .int .i64 0] 54)
  have hx := heap_alloc_new W1 (.cells #[.int .i64 v, .int .i64 0, .string ⟨#[]⟩, .int .i64 0, .int .i64 0, .int .i64 0, .string ⟨#[]⟩, .int .i64 0, .int .i64 0, .int .i64 0, .string ⟨#[]⟩, .int .i64 0, .int .i64 0, .int .i64 0, .int .i64 0, .int .i64 0] 54)
  have hrd2 := hrd.below ha
  have hv2 := (ha.block w.heap.size (by omega)).trans hv1
  have hb2 := Later.trans hb1 ha
  have zX : W1.heap.size < (W1.alloc (.cells #[.int .i64 v, .int .i64 0, .string ⟨#[]⟩, .int .i64 0, .int .i64 0, .int .i64 0, .string ⟨#[]⟩, .int .i64 0, .int .i64 0, .int .i64 0, .string ⟨#[]⟩, .int .i64 0, .int .i64 0, .int .i64 0, .int .i64 0, .int .i64 0] 54)).heap.size := by simp
  have HF := Lib.hid (And.intro hx (And.intro hv2 (And.intro hb2 (And.intro hrd2 (And.intro zX z1)))))
  clear ha hx hrd2 hv2 hb2 zX hrd hv1 hb1 z1
  clear HKK
  go_upto_block 0 with (fail)
  obtain ⟨hx, hv2, hb2, hrd2, zX, z1⟩ := HF.out
  clear HF
  generalize W1.alloc (.cells #[.int .i64 v, .int .i64 0, .string ⟨#[]⟩, .int .i64 0, .int .i64 0, .int .i64 0, .string ⟨#[]⟩, .int .i64 0, .int .i64 0, .int .i64 0, .string ⟨#[]⟩, .int .i64 0, .int .i64 0, .int .i64 0, .int .i64 0, .int .i64 0] 54) = W2 at hx hv2 hb2 hrd2 zX ⊢
  generalize W1.heap.size = X at hx zX z1 ⊢
  have HF := Lib.hid (And.intro hx (And.intro hv2 (And.intro hb2 (And.intro hrd2 (And.intro zX z1)))))
  clear hv2 hb2 hrd2 zX z1
  go_cut [] from 14 (fun wr => AfterI w b X wr)
  case first =>
    have c0 := var_cell hx 0
    clear hx
    by_cases k1 : v = 1
    · have t1 : (v == 1) = true := by simp [k1]
      have K1 := Lib.hid k1
      clear k1
      go_wp2_with fail
      obtain ⟨hx, hv2, hb2, hrd2, zX, z1⟩ := HF.out
      clear HF
      refine (rdAsker_any (w.heap.size + 1) (b.drop 1) W2 hrd2).mono ?_
      obtain ⟨a, hav⟩ : ∃ a, (iAk (b.drop 1)).1 = a := ⟨_, rfl⟩
      rw [hav]
      have HAV := Lib.hid hav
      clear hav
      obtain ⟨Q, hQ⟩ : ∃ Q, (akC a).toArray = Q := ⟨_, rfl⟩
      rw [hQ]
      have HQ := Lib.hid hQ
      clear hQ
      rintro e W3 ⟨rfl, ht⟩
      have hx3 := (ht.only.block X zX (by simp; omega)).trans hx
      have hv3 := (ht.only.block w.heap.size (by omega) (by simp)).trans hv2
      have hb3 : Below w.heap.size w W3 := Rep.Only.below hb2 ht.only hb2.size (fun a ha => by simp at ha; omega)
      clear ht hx hv2 hb2 hrd2 zX
      have hth : W3.there X 1 8 := fun j hj => ⟨by rw [var_cell hx3 (1 + j)]; simp; omega, var_frozen hx3 (1 + j)⟩
      have HT := Lib.hid hth
      clear hth
      have hXs : Q.size = 8 := by rw [← HQ.out]; rfl
      have hst : (storeCells ⟨X, 1, none⟩ Q.toList).run Try.prog W3 = .ok () (Rep.setRow W3 X 1 Q.toList) := by
        rw [← setCells_row]
        have h9 := run_storeCells_cells (P := Try.prog) X 1 Q.toList 0 W3 (fun j hj => by rw [← HQ.out] at hj; simpa using (HT.out j (by simpa [akC, lnC] using hj)).1) (fun j hj => by rw [← HQ.out] at hj; simpa using (HT.out j (by simpa [akC, lnC] using hj)).2) (by rw [← HQ.out]; simp [Value.oneCell', akC, lnC])
        simpa using h9
      have HH := Lib.hid (And.intro hx3 (And.intro hv3 hb3))
      clear HT hx3 hv3 hb3
      have eX : Q.toList = [.int .i64 a.sock, .string a.db, .int .i64 a.st, .int .i64 a.ticket, .int .i64 a.since, .string a.q, .int .i64 a.line, .int .i64 a.lease] := by rw [← HQ.out]; rfl
      have HEX := Lib.hid eX
      clear eX
      go_wp2_with fail
      clear hst hXs
      go_meet
      case rel =>
        rw [HEX.out]
        have hB := Rep.setRow_below (g := X) 1 [.int .i64 a.sock, .string a.db, .int .i64 a.st, .int .i64 a.ticket, .int .i64 a.since, .string a.q, .int .i64 a.line, .int .i64 a.lease] HH.out.2.2 (by omega)
        have v1 := (Rep.setRow_heap W3 X 1 w.heap.size [.int .i64 a.sock, .string a.db, .int .i64 a.st, .int .i64 a.ticket, .int .i64 a.since, .string a.q, .int .i64 a.line, .int .i64 a.lease] (by omega)).trans HH.out.2.1
        have v2 := setRow_box (g := X) 1 [.int .i64 a.sock, .string a.db, .int .i64 a.st, .int .i64 a.ticket, .int .i64 a.since, .string a.q, .int .i64 a.line, .int .i64 a.lease] HH.out.1
        replace v2 : (Rep.setRow W3 X 1 [.int .i64 a.sock, .string a.db, .int .i64 a.st, .int .i64 a.ticket, .int .i64 a.since, .string a.q, .int .i64 a.line, .int .i64 a.lease]).heap[X]? = some (.cells #[.int .i64 v, .int .i64 a.sock, .string a.db, .int .i64 a.st, .int .i64 a.ticket, .int .i64 a.since, .string a.q, .int .i64 a.line, .int .i64 a.lease, .int .i64 0, .string ⟨#[]⟩, .int .i64 0, .int .i64 0, .int .i64 0, .int .i64 0, .int .i64 0] 54 (0, 0)) := by simpa [putA] using v2
        refine ⟨hB, ?_, v1, by omega⟩
        rw [v2]
        have ex : itC (iIt b) = [.int .i64 v, .int .i64 a.sock, .string a.db, .int .i64 a.st, .int .i64 a.ticket, .int .i64 a.since, .string a.q, .int .i64 a.line, .int .i64 a.lease, .int .i64 0, .string ⟨#[]⟩, .int .i64 0, .int .i64 0, .int .i64 0, .int .i64 0, .int .i64 0] := by unfold iIt; rw [if_pos (HVV.out.trans K1.out), HAV.out, K1.out]; rfl
        rw [ex]
    · have t1 : (v == 1) = false := by simp [k1]
      have K1 := Lib.hid k1
      clear k1
      by_cases k2 : v = 2
      · have t2 : (v == 2) = true := by simp [k2]
        have K2 := Lib.hid k2
        clear k2
        go_wp2_with fail
        obtain ⟨hx, hv2, hb2, hrd2, zX, z1⟩ := HF.out
        clear HF
        refine (rdLine_any (w.heap.size + 1) (b.drop 1) W2 hrd2).mono ?_
        obtain ⟨y, hav⟩ : ∃ a, (iLn (b.drop 1)).1 = a := ⟨_, rfl⟩
        rw [hav]
        have HAV := Lib.hid hav
        clear hav
        obtain ⟨Q, hQ⟩ : ∃ Q, (lnC y).toArray = Q := ⟨_, rfl⟩
        rw [hQ]
        have HQ := Lib.hid hQ
        clear hQ
        rintro e W3 ⟨rfl, ht⟩
        have hx3 := (ht.only.block X zX (by simp; omega)).trans hx
        have hv3 := (ht.only.block w.heap.size (by omega) (by simp)).trans hv2
        have hb3 : Below w.heap.size w W3 := Rep.Only.below hb2 ht.only hb2.size (fun a ha => by simp at ha; omega)
        clear ht hx hv2 hb2 hrd2 zX
        have hth : W3.there X 9 7 := fun j hj => ⟨by rw [var_cell hx3 (9 + j)]; simp; omega, var_frozen hx3 (9 + j)⟩
        have HT := Lib.hid hth
        clear hth
        have hXs : Q.size = 7 := by rw [← HQ.out]; rfl
        have hst : (storeCells ⟨X, 9, none⟩ Q.toList).run Try.prog W3 = .ok () (Rep.setRow W3 X 9 Q.toList) := by
          rw [← setCells_row]
          have h9 := run_storeCells_cells (P := Try.prog) X 9 Q.toList 0 W3 (fun j hj => by rw [← HQ.out] at hj; simpa using (HT.out j (by simpa [akC, lnC] using hj)).1) (fun j hj => by rw [← HQ.out] at hj; simpa using (HT.out j (by simpa [akC, lnC] using hj)).2) (by rw [← HQ.out]; simp [Value.oneCell', akC, lnC])
          simpa using h9
        have HH := Lib.hid (And.intro hx3 (And.intro hv3 hb3))
        clear HT hx3 hv3 hb3
        have eX : Q.toList = [.int .i64 y.sock, .string y.db, .int .i64 y.gen, .int .i64 y.st, .int .i64 y.since, .int .i64 y.asker, .int .i64 y.lease] := by rw [← HQ.out]; rfl
        have HEX := Lib.hid eX
        clear eX
        go_wp2_with fail
        clear hst hXs
        go_meet
        case rel =>
          rw [HEX.out]
          have hB := Rep.setRow_below (g := X) 9 [.int .i64 y.sock, .string y.db, .int .i64 y.gen, .int .i64 y.st, .int .i64 y.since, .int .i64 y.asker, .int .i64 y.lease] HH.out.2.2 (by omega)
          have v1 := (Rep.setRow_heap W3 X 9 w.heap.size [.int .i64 y.sock, .string y.db, .int .i64 y.gen, .int .i64 y.st, .int .i64 y.since, .int .i64 y.asker, .int .i64 y.lease] (by omega)).trans HH.out.2.1
          have v2 := setRow_box (g := X) 9 [.int .i64 y.sock, .string y.db, .int .i64 y.gen, .int .i64 y.st, .int .i64 y.since, .int .i64 y.asker, .int .i64 y.lease] HH.out.1
          replace v2 : (Rep.setRow W3 X 9 [.int .i64 y.sock, .string y.db, .int .i64 y.gen, .int .i64 y.st, .int .i64 y.since, .int .i64 y.asker, .int .i64 y.lease]).heap[X]? = some (.cells #[.int .i64 v, .int .i64 0, .string ⟨#[]⟩, .int .i64 0, .int .i64 0, .int .i64 0, .string ⟨#[]⟩, .int .i64 0, .int .i64 0, .int .i64 y.sock, .string y.db, .int .i64 y.gen, .int .i64 y.st, .int .i64 y.since, .int .i64 y.asker, .int .i64 y.lease] 54 (0, 0)) := by simpa [putA] using v2
          refine ⟨hB, ?_, v1, by omega⟩
          rw [v2]
          have ex : itC (iIt b) = [.int .i64 v, .int .i64 0, .string ⟨#[]⟩, .int .i64 0, .int .i64 0, .int .i64 0, .string ⟨#[]⟩, .int .i64 0, .int .i64 0, .int .i64 y.sock, .string y.db, .int .i64 y.gen, .int .i64 y.st, .int .i64 y.since, .int .i64 y.asker, .int .i64 y.lease] := by unfold iIt; rw [if_neg (by rw [HVV.out]; exact K1.out), if_pos (HVV.out.trans K2.out), HAV.out, K2.out]; rfl
          rw [ex]
      · have t2 : (v == 2) = false := by simp [k2]
        have K2 := Lib.hid k2
        clear k2
        go_wp2_with fail
        go_meet
        case rel =>
          have ex : itC (iIt b) = [.int .i64 v, .int .i64 0, .string ⟨#[]⟩, .int .i64 0, .int .i64 0, .int .i64 0, .string ⟨#[]⟩, .int .i64 0, .int .i64 0, .int .i64 0, .string ⟨#[]⟩, .int .i64 0, .int .i64 0, .int .i64 0, .int .i64 0, .int .i64 0] := by unfold iIt; rw [if_neg (by rw [HVV.out]; exact K1.out), if_neg (by rw [HVV.out]; exact K2.out), HVV.out]; rfl
          refine ⟨HF.out.2.2.1, ?_, HF.out.2.1, by have := HF.out.2.2.2.2.2; omega⟩
          rw [ex]; exact HF.out.1
  clear hx HF
  obtain ⟨hB, v2, v1, z1⟩ := hcut
  obtain ⟨W4, rfl⟩ : ∃ wo : World, wo = wc := ⟨_, rfl⟩
  obtain ⟨x, hxx⟩ : ∃ x, iIt b = x := ⟨_, rfl⟩
  rw [hxx] at v2
  have HX := Lib.hid hxx
  clear hxx
  replace v2 : W4.heap[X]? = some (.cells #[.int .i64 x.kind, .int .i64 x.a.sock, .string x.a.db, .int .i64 x.a.st, .int .i64 x.a.ticket, .int .i64 x.a.since, .string x.a.q, .int .i64 x.a.line, .int .i64 x.a.lease, .int .i64 x.l.sock, .string x.l.db, .int .i64 x.l.gen, .int .i64 x.l.st, .int .i64 x.l.since, .int .i64 x.l.asker, .int .i64 x.l.lease] 54 (0, 0)) := v2
  have S : All (fun w' => Below w.heap.size w w' ∧ w'.heap[X]? = some (.cells #[.int .i64 x.kind, .int .i64 x.a.sock, .string x.a.db, .int .i64 x.a.st, .int .i64 x.a.ticket, .int .i64 x.a.since, .string x.a.q, .int .i64 x.a.line, .int .i64 x.a.lease, .int .i64 x.l.sock, .string x.l.db, .int .i64 x.l.gen, .int .i64 x.l.st, .int .i64 x.l.since, .int .i64 x.l.asker, .int .i64 x.l.lease] 54 (0, 0)) ∧ w'.heap[w.heap.size]? = some (.cells #[.int .i64 0, .int .i64 0, .string ⟨#[]⟩, .int .i64 0, .int .i64 0, .int .i64 0, .string ⟨#[]⟩, .int .i64 0, .int .i64 0, .int .i64 0, .string ⟨#[]⟩, .int .i64 0, .int .i64 0, .int .i64 0, .int .i64 0, .int .i64 0] 54 (0, 0))) W4 := ⟨hB, v2, v1⟩
  clear hB v1 v2
  have hfit : FitsIt x := by rw [← HX.out]; exact fits_iIt b
  have c0 := var_cell S.out.2.1 0
  have c1 := var_cell S.out.2.1 1
  have c2 := var_cell S.out.2.1 2
  have c3 := var_cell S.out.2.1 3
  have c4 := var_cell S.out.2.1 4
  have c5 := var_cell S.out.2.1 5
  have c6 := var_cell S.out.2.1 6
  have c7 := var_cell S.out.2.1 7
  have c8 := var_cell S.out.2.1 8
  have c9 := var_cell S.out.2.1 9
  have c10 := var_cell S.out.2.1 10
  have c11 := var_cell S.out.2.1 11
  have c12 := var_cell S.out.2.1 12
  have c13 := var_cell S.out.2.1 13
  have c14 := var_cell S.out.2.1 14
  have c15 := var_cell S.out.2.1 15
  go_wp2_with fail
  clear c0 c1 c2 c3 c4 c5 c6 c7 c8 c9 c10 c11 c12 c13 c14 c15
  obtain ⟨L, hL⟩ : ∃ L, itemB x = L := ⟨_, rfl⟩
  have C := putItem_any x W4 hfit
  rw [hL] at C
  have HL := Lib.hid hL
  clear hL
  refine C.mono ?_
  clear C
  rintro e W5 ⟨v5, rfl, ho, hb⟩
  replace S := S.later hb
  clear hb
  obtain ⟨A5, c5, rfl, _, _, r5, _⟩ := ho.shape
  clear ho
  go_wp2_with fail
  refine (equalB_any A5 A c5 c _ _ L b W5 r5 ((HR.out.below S.out.1).more (Nat.le_refl _))).mono ?_
  rintro e W6 ⟨rfl, rfl⟩
  clear r5
  by_cases hq : L = b
  · have hqq : (L == b) = true := by simp [hq]
    have hgt : getI b = (x, true) := by unfold getI; rw [if_pos ⟨H0.out, by rw [HX.out, HL.out, hq]⟩, HX.out]
    have hpp := HG.out.symm.trans hgt
    obtain rfl : x = gx := (congrArg Prod.fst hpp).symm
    obtain rfl : gb = true := congrArg Prod.snd hpp
    rw [hqq]
    clear hgt hq hqq hpp
    have c0 := var_cell S.out.2.1 0
    have c1 := var_cell S.out.2.1 1
    have c2 := var_cell S.out.2.1 2
    have c3 := var_cell S.out.2.1 3
    have c4 := var_cell S.out.2.1 4
    have c5 := var_cell S.out.2.1 5
    have c6 := var_cell S.out.2.1 6
    have c7 := var_cell S.out.2.1 7
    have c8 := var_cell S.out.2.1 8
    have c9 := var_cell S.out.2.1 9
    have c10 := var_cell S.out.2.1 10
    have c11 := var_cell S.out.2.1 11
    have c12 := var_cell S.out.2.1 12
    have c13 := var_cell S.out.2.1 13
    have c14 := var_cell S.out.2.1 14
    have c15 := var_cell S.out.2.1 15
    have d0 := var_cell S.out.2.2 0
    have f0 := var_frozen S.out.2.2 0
    have d1 := var_cell S.out.2.2 1
    have f1 := var_frozen S.out.2.2 1
    have d2 := var_cell S.out.2.2 2
    have f2 := var_frozen S.out.2.2 2
    have d3 := var_cell S.out.2.2 3
    have f3 := var_frozen S.out.2.2 3
    have d4 := var_cell S.out.2.2 4
    have f4 := var_frozen S.out.2.2 4
    have d5 := var_cell S.out.2.2 5
    have f5 := var_frozen S.out.2.2 5
    have d6 := var_cell S.out.2.2 6
    have f6 := var_frozen S.out.2.2 6
    have d7 := var_cell S.out.2.2 7
    have f7 := var_frozen S.out.2.2 7
    have d8 := var_cell S.out.2.2 8
    have f8 := var_frozen S.out.2.2 8
    have d9 := var_cell S.out.2.2 9
    have f9 := var_frozen S.out.2.2 9
    have d10 := var_cell S.out.2.2 10
    have f10 := var_frozen S.out.2.2 10
    have d11 := var_cell S.out.2.2 11
    have f11 := var_frozen S.out.2.2 11
    have d12 := var_cell S.out.2.2 12
    have f12 := var_frozen S.out.2.2 12
    have d13 := var_cell S.out.2.2 13
    have f13 := var_frozen S.out.2.2 13
    have d14 := var_cell S.out.2.2 14
    have f14 := var_frozen S.out.2.2 14
    have d15 := var_cell S.out.2.2 15
    have f15 := var_frozen S.out.2.2 15
    go_wp2_with fail
    clear c0 d0 f0 c1 d1 f1 c2 d2 f2 c3 d3 f3 c4 d4 f4 c5 d5 f5 c6 d6 f6 c7 d7 f7 c8 d8 f8 c9 d9 f9 c10 d10 f10 c11 d11 f11 c12 d12 f12 c13 d13 f13 c14 d14 f14 c15 d15 f15
    have hb := setRow_box 0 [.int .i64 x.kind, .int .i64 x.a.sock, .string x.a.db, .int .i64 x.a.st, .int .i64 x.a.ticket, .int .i64 x.a.since, .string x.a.q, .int .i64 x.a.line, .int .i64 x.a.lease, .int .i64 x.l.sock, .string x.l.db, .int .i64 x.l.gen, .int .i64 x.l.st, .int .i64 x.l.since, .int .i64 x.l.asker, .int .i64 x.l.lease] S.out.2.2
    replace hb : (Rep.setRow W5 w.heap.size 0 [.int .i64 x.kind, .int .i64 x.a.sock, .string x.a.db, .int .i64 x.a.st, .int .i64 x.a.ticket, .int .i64 x.a.since, .string x.a.q, .int .i64 x.a.line, .int .i64 x.a.lease, .int .i64 x.l.sock, .string x.l.db, .int .i64 x.l.gen, .int .i64 x.l.st, .int .i64 x.l.since, .int .i64 x.l.asker, .int .i64 x.l.lease]).heap[w.heap.size]? = some (.cells #[.int .i64 x.kind, .int .i64 x.a.sock, .string x.a.db, .int .i64 x.a.st, .int .i64 x.a.ticket, .int .i64 x.a.since, .string x.a.q, .int .i64 x.a.line, .int .i64 x.a.lease, .int .i64 x.l.sock, .string x.l.db, .int .i64 x.l.gen, .int .i64 x.l.st, .int .i64 x.l.since, .int .i64 x.l.asker, .int .i64 x.l.lease] 54 (0, 0)) := by simpa [putA] using hb
    have hf := Rep.setRow_below (g := w.heap.size) 0 [.int .i64 x.kind, .int .i64 x.a.sock, .string x.a.db, .int .i64 x.a.st, .int .i64 x.a.ticket, .int .i64 x.a.since, .string x.a.q, .int .i64 x.a.line, .int .i64 x.a.lease, .int .i64 x.l.sock, .string x.l.db, .int .i64 x.l.gen, .int .i64 x.l.st, .int .i64 x.l.since, .int .i64 x.l.asker, .int .i64 x.l.lease] S.out.1 (Nat.le_refl _)
    change bodyPost _ _ _ _ _ (Rep.setRow W5 w.heap.size 0 [.int .i64 x.kind, .int .i64 x.a.sock, .string x.a.db, .int .i64 x.a.st, .int .i64 x.a.ticket, .int .i64 x.a.since, .string x.a.q, .int .i64 x.a.line, .int .i64 x.a.lease, .int .i64 x.l.sock, .string x.l.db, .int .i64 x.l.gen, .int .i64 x.l.st, .int .i64 x.l.since, .int .i64 x.l.asker, .int .i64 x.l.lease])
    generalize Rep.setRow W5 w.heap.size 0 [.int .i64 x.kind, .int .i64 x.a.sock, .string x.a.db, .int .i64 x.a.st, .int .i64 x.a.ticket, .int .i64 x.a.since, .string x.a.q, .int .i64 x.a.line, .int .i64 x.a.lease, .int .i64 x.l.sock, .string x.l.db, .int .i64 x.l.gen, .int .i64 x.l.st, .int .i64 x.l.since, .int .i64 x.l.asker, .int .i64 x.l.lease] = Wz at hb hf ⊢
    exact bodyPost_ret (ret_item (D := w.heap.size) (cs := [.int .i64 x.kind, .int .i64 x.a.sock, .string x.a.db, .int .i64 x.a.st, .int .i64 x.a.ticket, .int .i64 x.a.since, .string x.a.q, .int .i64 x.a.line, .int .i64 x.a.lease, .int .i64 x.l.sock, .string x.l.db, .int .i64 x.l.gen, .int .i64 x.l.st, .int .i64 x.l.since, .int .i64 x.l.asker, .int .i64 x.l.lease]) (k := true) rfl rfl rfl hb rfl) rfl ⟨rfl, hf⟩
  · have hqq : (L == b) = false := by simp [hq]
    have hgt : getI b = (itZero, false) := getI_no (.inr (by rw [HX.out, HL.out]; exact hq))
    have hpp := HG.out.symm.trans hgt
    obtain rfl : gx = itZero := congrArg Prod.fst hpp
    obtain rfl : gb = false := congrArg Prod.snd hpp
    rw [hqq]
    clear hgt hq hqq hpp
    have d0 := var_cell S.out.2.2 0
    have f0 := var_frozen S.out.2.2 0
    have d1 := var_cell S.out.2.2 1
    have f1 := var_frozen S.out.2.2 1
    have d2 := var_cell S.out.2.2 2
    have f2 := var_frozen S.out.2.2 2
    have d3 := var_cell S.out.2.2 3
    have f3 := var_frozen S.out.2.2 3
    have d4 := var_cell S.out.2.2 4
    have f4 := var_frozen S.out.2.2 4
    have d5 := var_cell S.out.2.2 5
    have f5 := var_frozen S.out.2.2 5
    have d6 := var_cell S.out.2.2 6
    have f6 := var_frozen S.out.2.2 6
    have d7 := var_cell S.out.2.2 7
    have f7 := var_frozen S.out.2.2 7
    have d8 := var_cell S.out.2.2 8
    have f8 := var_frozen S.out.2.2 8
    have d9 := var_cell S.out.2.2 9
    have f9 := var_frozen S.out.2.2 9
    have d10 := var_cell S.out.2.2 10
    have f10 := var_frozen S.out.2.2 10
    have d11 := var_cell S.out.2.2 11
    have f11 := var_frozen S.out.2.2 11
    have d12 := var_cell S.out.2.2 12
    have f12 := var_frozen S.out.2.2 12
    have d13 := var_cell S.out.2.2 13
    have f13 := var_frozen S.out.2.2 13
    have d14 := var_cell S.out.2.2 14
    have f14 := var_frozen S.out.2.2 14
    have d15 := var_cell S.out.2.2 15
    have f15 := var_frozen S.out.2.2 15
    go_wp2_with fail
    clear d0 f0 d1 f1 d2 f2 d3 f3 d4 f4 d5 f5 d6 f6 d7 f7 d8 f8 d9 f9 d10 f10 d11 f11 d12 f12 d13 f13 d14 f14 d15 f15
    have hb := setRow_box 0 [.int .i64 0, .int .i64 0, .string ⟨#[]⟩, .int .i64 0, .int .i64 0, .int .i64 0, .string ⟨#[]⟩, .int .i64 0, .int .i64 0, .int .i64 0, .string ⟨#[]⟩, .int .i64 0, .int .i64 0, .int .i64 0, .int .i64 0, .int .i64 0] S.out.2.2
    replace hb : (Rep.setRow W5 w.heap.size 0 [.int .i64 0, .int .i64 0, .string ⟨#[]⟩, .int .i64 0, .int .i64 0, .int .i64 0, .string ⟨#[]⟩, .int .i64 0, .int .i64 0, .int .i64 0, .string ⟨#[]⟩, .int .i64 0, .int .i64 0, .int .i64 0, .int .i64 0, .int .i64 0]).heap[w.heap.size]? = some (.cells #[.int .i64 0, .int .i64 0, .string ⟨#[]⟩, .int .i64 0, .int .i64 0, .int .i64 0, .string ⟨#[]⟩, .int .i64 0, .int .i64 0, .int .i64 0, .string ⟨#[]⟩, .int .i64 0, .int .i64 0, .int .i64 0, .int .i64 0, .int .i64 0] 54 (0, 0)) := by simpa [putA] using hb
    have hf := Rep.setRow_below (g := w.heap.size) 0 [.int .i64 0, .int .i64 0, .string ⟨#[]⟩, .int .i64 0, .int .i64 0, .int .i64 0, .string ⟨#[]⟩, .int .i64 0, .int .i64 0, .int .i64 0, .string ⟨#[]⟩, .int .i64 0, .int .i64 0, .int .i64 0, .int .i64 0, .int .i64 0] S.out.1 (Nat.le_refl _)
    change bodyPost _ _ _ _ _ (Rep.setRow W5 w.heap.size 0 [.int .i64 0, .int .i64 0, .string ⟨#[]⟩, .int .i64 0, .int .i64 0, .int .i64 0, .string ⟨#[]⟩, .int .i64 0, .int .i64 0, .int .i64 0, .string ⟨#[]⟩, .int .i64 0, .int .i64 0, .int .i64 0, .int .i64 0, .int .i64 0])
    generalize Rep.setRow W5 w.heap.size 0 [.int .i64 0, .int .i64 0, .string ⟨#[]⟩, .int .i64 0, .int .i64 0, .int .i64 0, .string ⟨#[]⟩, .int .i64 0, .int .i64 0, .int .i64 0, .string ⟨#[]⟩, .int .i64 0, .int .i64 0, .int .i64 0, .int .i64 0, .int .i64 0] = Wz at hb hf ⊢
    exact bodyPost_ret (ret_item (D := w.heap.size) (cs := [.int .i64 0, .int .i64 0, .string ⟨#[]⟩, .int .i64 0, .int .i64 0, .int .i64 0, .string ⟨#[]⟩, .int .i64 0, .int .i64 0, .int .i64 0, .string ⟨#[]⟩, .int .i64 0, .int .i64 0, .int .i64 0, .int .i64 0, .int .i64 0]) (k := false) rfl rfl rfl hb rfl) rfl ⟨rfl, hf⟩

theorem getItem_any (A : Option Addr) (c : Nat) (b : List UInt8) (w : World) (hr : Reads w w.heap.size 1 A b.length (bys b)) (hn : b.length ≤ 2000000) (hc : b.length ≤ c) :
    Calls Try.prog 35 #[.slice A b.length c] w (RetIt w (getI b)) := by
  by_cases h0 : b.length = 0
  · exact getItem_0 A c b w hr hn hc h0
  · exact getItem_p A c b w hr hn hc h0 trivial
end Go.Proofs.Ytgdhhhibkhfdlaa
