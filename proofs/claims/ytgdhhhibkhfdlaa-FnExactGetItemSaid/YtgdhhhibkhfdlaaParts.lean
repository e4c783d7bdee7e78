/- partsJoined: bytes laid behind each other by copy; octet, moment. -/
import Derived.Test.YtgdhhhibkhfdlaaRet
import Derived.Laws.CopyOwn
namespace Go.Proofs.Ytgdhhhibkhfdlaa
open Go.RowKit
set_option linter.unusedVariables false

structure Part where
  a : Option Addr
  c : Nat
  l : List UInt8
def Part.val (p : Part) : Value := .slice p.a p.l.length p.c
def partsL (ps : List Part) : List UInt8 := ps.flatMap (·.l)
def PartsAt (w : World) (B : Nat) (ps : List Part) : Prop := ∀ p, p ∈ ps → Reads w B 1 p.a p.l.length (bys p.l)
theorem PartsAt.later {w w' : World} {ps : List Part} (h : PartsAt w w.heap.size ps) (hb : Below w.heap.size w w') : PartsAt w' w'.heap.size ps := fun p hp => (h p hp).below hb |>.more hb.size
theorem partsL_succ {ps : List Part} {k : Nat} {p : Part} (h : ps[k]? = some p) : partsL (ps.take (k + 1)) = partsL (ps.take k) ++ p.l := by
  unfold partsL
  rw [Rep.take_get h, List.flatMap_append]
  simp
theorem partsL_le (ps : List Part) (k : Nat) : (partsL (ps.take k)).length ≤ (partsL ps).length := by
  have h : partsL ps = partsL (ps.take k) ++ partsL (ps.drop k) := by
    unfold partsL
    rw [← List.flatMap_append, List.take_append_drop]
  rw [h, List.length_append]
  omega

/-- The row, once k parts are laid. -/
def laidP (ps : List Part) (N k : Nat) : List Value := bys (partsL (ps.take k)) ++ List.replicate (N - (partsL (ps.take k)).length) (.int .u8 0)
theorem laidP_len {ps : List Part} {N k : Nat} (h : (partsL (ps.take k)).length ≤ N) : (laidP ps N k).length = N := by
  unfold laidP
  rw [List.length_append, bys_length, List.length_replicate]
  omega
theorem laidP_succ {ps : List Part} {N k : Nat} {p : Part} (h : ps[k]? = some p) (hl : (partsL (ps.take k)).length + p.l.length ≤ N) : splice (laidP ps N k) (partsL (ps.take k)).length (bys p.l) = laidP ps N (k + 1) := by
  unfold laidP splice
  have e1 : (bys (partsL (ps.take k))).length = (partsL (ps.take k)).length := bys_length _
  rw [← e1, List.take_left, partsL_succ h, bys_append, List.append_assoc, e1, List.drop_append, List.drop_of_length_le (by rw [bys_length]; omega), List.nil_append, List.drop_replicate, List.length_append, bys_length, bys_length]
  congr 3
  omega
theorem laidP_zero (ps : List Part) (N : Nat) : laidP ps N 0 = (madeCells (Value.int .u8 0).cells (N * 1)).toList := by
  unfold laidP partsL
  simp [bys, madeCells, Value.cells]
  apply List.ext_getElem?
  intro j
  simp [List.getElem?_replicate, List.getElem?_map]
  by_cases hj : j < N
  · simp [hj, Nat.mod_one]
  · simp [hj]
theorem laidP_all (ps : List Part) : laidP ps (partsL ps).length ps.length = bys (partsL ps) := by
  unfold laidP
  rw [List.take_of_length_le (Nat.le_refl _)]
  simp

/-- The rest of the row: it has an address of its own as long as something of it is left. -/
def RestAt (g off m : Nat) (A : Option Addr) : Prop := 0 < m → A = some ⟨g, off, none⟩
theorem rest_cut {P : Program} {t e : TypeId} {i : TypeInfo} (ht : P.underlying t = some (.slice e)) (hi : P.info? e = some i) (hs : i.size = 1)
    {A : Option Addr} {g off m k : Nat} (h : RestAt g off m A) (hk : k ≤ m) :
    ∃ A', (∀ w, (Instr.slice t (.slice A m m) (some (.int .i64 (k : Int))) none none).run P w = .ok (.slice A' (m - k) (m - k)) w) ∧ RestAt g (off + k) (m - k) A' := by
  refine ⟨if m = k then A else A.map (·.add k), fun w => ?_, fun h0 => ?_⟩
  · have a3 : (0 : Int) ≤ k := by omega
    have hz := sizeOf_run (P := P) (e := e) w hi
    simp [Instr.slice, run_underlying ht, Instr.sliceBounds, Instr.sliceBound, asIntOf, hk, hz, hs, go_sem]
  · rw [if_neg (by omega), h (by omega)]
    simp [Addr.add]

set_option maxRecDepth 100000 in
set_option maxHeartbeats 4000000 in
theorem partsJoined_any (g : Nat) (t : TypeId) (ps : List Part) (n : Nat) (hps : ps.length = n) (w : World) (hg : w.heap[g]? = some (.cells (ps.map Part.val).toArray t (0, 0))) (hr : PartsAt w w.heap.size ps) (hn : (partsL ps).length ≤ 100000000) (hk : n ≤ 1000) :
    Calls Try.prog 160 #[.slice (some ⟨g, 0, none⟩) n n] w (RetOwn w (partsL ps)) := by
  obtain ⟨i0, hi0, hz0, hz1, hz2⟩ := info_parts Try.info8
  have hgl : g < w.heap.size := (Array.getElem?_eq_some_iff.1 hg).1
  have HP := Lib.hid hps
  have HG := Lib.hid hg
  have HR := Lib.hid hr
  have HN := Lib.hid hn
  clear hps hg hr
  have cell : ∀ k p, ps[k]? = some p → w.cell? ⟨g, k, none⟩ = some (.slice p.a p.l.length p.c) := fun k p h => by
    rw [var_cell HG.out k]
    simp [List.getElem?_map, h, Part.val]
  have HC := Lib.hid cell
  clear cell
  unfold RetOwn
  go_enter Try.func160, Try.ntmps160
  go_wp2
  go_loop [3, 12] (fun s i => ∃ k m : Nat, k ≤ n ∧ i = .int .i64 k ∧ s = .int .i64 m ∧ Hid (m = (partsL (ps.take k)).length)) (fun _ i => n - (intOf i).toNat)
  case atStart => exact ⟨0, 0, by omega, rfl, rfl, Lib.hid rfl⟩
  case round =>
    obtain ⟨k, m, hk1, rfl, rfl, hm⟩ := hrel
    have hm1 : m ≤ 100000000 := by rw [hm.out]; exact Nat.le_trans (partsL_le ps k) HN.out
    by_cases hlt : k < n
    · obtain ⟨p, hp⟩ : ∃ p, ps[k]? = some p := ⟨_, List.getElem?_eq_getElem (by rw [HP.out]; exact hlt)⟩
      have HM := Lib.hid (show m + p.l.length = (partsL (ps.take (k + 1))).length by rw [partsL_succ hp, List.length_append, hm.out])
      have hm2 : m + p.l.length ≤ 100000000 := by rw [HM.out]; exact Nat.le_trans (partsL_le ps _) HN.out
      have c := HC.out k p hp
      have i1 : (0 : Int) ≤ (k : Int) := by omega
      have i2 : (k : Int) < (n : Int) := by omega
      clear hp hm
      go_wp2
      go_round
      case rel => exact ⟨k + 1, m + p.l.length, by omega, by go_num, by go_num, HM⟩
      case measure => simp [intOf]; omega
    · have he : k = n := by omega
      subst he
      have HM := Lib.hid (show m = (partsL ps).length by rw [hm.out, List.take_of_length_le (by rw [HP.out]; exact Nat.le_refl _)])
      clear hm hlt
      go_wp2_with (at_make; refine wpList_make_full _ rfl _ _ _ rfl w.heap.size 5 i0 _ 1 Try.underlying22 hi0 hz0 hz1 _ _ _ _ m rfl rfl rfl rfl (by rw [hz2]; omega) (by simp only [maxLen]; omega) (Nat.le_refl _) ?_; intro w1 hown1 hg1)
      have hb1 : Below w.heap.size w w1 := (Below.refl _ _).grown hg1 (Nat.le_refl _) (fun _ hk => by cases hk)
      have hrow : Hid (w1.heap[w.heap.size]? = some (.cells (laidP ps m 0).toArray 5 (0, 0))) := by
        rcases hown1.2 with ⟨hv, _⟩ | ⟨g1, cap, cur, hv, _, hh, _, _, hsz, htk⟩
        · cases hv
        · injection hv with h1 h2 h3
          injection h1 with h1
          injection h1 with h1
          subst h1 h3
          rw [List.take_of_length_le (by rw [Array.length_toList, hsz]; exact Nat.le_refl _)] at htk
          refine Lib.hid ?_
          rw [hh, laidP_zero, ← htk]
      have hR0 : RestAt w.heap.size 0 m (some ⟨w.heap.size, 0, none⟩) := fun _ => rfl
      have hR1 := Lib.hid hR0
      clear hown1 hg1 hR0
      go_wp2
      go_loopw [7, 26] (fun r i wr => ∃ (j q d : Nat) (A : Option Addr), j ≤ k ∧ i = .int .i64 j ∧ r = .slice A d d ∧ Hid (q = (partsL (ps.take j)).length ∧ q + d = m ∧ RestAt w.heap.size q d A) ∧ Hid (wr.heap[w.heap.size]? = some (.cells (laidP ps m j).toArray 5 (0, 0))) ∧ Below w.heap.size w wr) (fun _ i _ => k - (intOf i).toNat)
      case atStart => exact ⟨0, 0, m, _, by omega, rfl, rfl, Lib.hid ⟨rfl, by omega, hR1.out⟩, hrow, hb1⟩
      case round =>
        obtain ⟨j, q, d, A, hj1, rfl, rfl, hq, hrw, hb⟩ := hrel
        clear hrow hR1 hb1
        by_cases hlt : j < k
        · obtain ⟨p, hp⟩ : ∃ p, ps[j]? = some p := ⟨_, List.getElem?_eq_getElem (by rw [HP.out]; exact hlt)⟩
          have hpl : q + p.l.length ≤ m := by
            have h1 := partsL_le ps (j + 1)
            rw [partsL_succ hp, List.length_append, ← hq.out.1, ← HM.out] at h1
            exact h1
          have hpd : p.l.length ≤ d := by have := hq.out.2.1; omega
          have hdm : d ≤ 100000000 := by have := hq.out.2.1; omega
          obtain ⟨X, hX⟩ : ∃ X, X = bys p.l := ⟨_, rfl⟩
          have hXl : X.length = p.l.length := by rw [hX, bys_length]
          obtain ⟨A2, rs, hR2⟩ := rest_cut Try.underlying22 hi0 hz1 hq.out.2.2 (show X.length ≤ d by omega)
          obtain ⟨d2, hd2⟩ : ∃ d2, d - X.length = d2 := ⟨_, rfl⟩
          rw [hd2] at rs hR2
          have HQ := Lib.hid (show q + X.length = (partsL (ps.take (j + 1))).length ∧ q + X.length + d2 = m ∧ RestAt w.heap.size (q + X.length) d2 A2 from ⟨by rw [partsL_succ hp, List.length_append, hXl, ← hq.out.1], by have := hq.out.2.1; omega, hR2⟩)
          have HL := Lib.hid (show splice (laidP ps m j) q X = laidP ps m (j + 1) by rw [hX, hq.out.1]; exact laidP_succ hp (by rw [← hq.out.1]; exact hpl))
          have HX := Lib.hid (show X.length = Nat.min p.l.length d by rw [hXl]; exact (Nat.min_eq_left hpd).symm)
          have hrd := (HR.out p (List.mem_of_getElem? hp)).below hb
          have HPOS := Lib.hid (show 0 < X.length → A = some ⟨w.heap.size, q, none⟩ ∧ ∃ ad, p.a = some ad ∧ ∀ j v, X[j]? = some v → wr.cell? (ad.add j) = some v from fun h0 => ⟨hq.out.2.2 (by omega), by
            obtain ⟨ad, hA, _, hc⟩ := hrd.2 (by omega)
            exact ⟨ad, hA, fun j v hv => hc j v (by rw [← hX]; exact hv)⟩⟩)
          have HFIT := Lib.hid (show q + X.length ≤ (laidP ps m j).length by rw [laidP_len (by rw [← hq.out.1]; omega)]; omega)
          have HONE := Lib.hid (show ∀ v ∈ X, v.oneCell' = true by rw [hX]; exact bys_one p.l)
          have HSZ := Lib.hid (show (Try.prog.info? 5).map (·.size) = some 1 by rw [hi0]; simp [hz1])
          have c := (hb.cell (p := ⟨g, j, none⟩) hgl).trans (HC.out j p hp)
          have i1 : (0 : Int) ≤ (j : Int) := by omega
          have i2 : (j : Int) < (k : Int) := by omega
          clear hp hX hXl hrd hd2 hR2 hq hpl
          go_wp2_with ((with_reducible refine wpList_copy_splice rfl (.tmp 31) (.tmp 32) 22 22 rfl 5 Try.underlying22 HSZ.out A p.a d d p.l.length p.c rfl rfl w.heap.size q (laidP ps m j) 5 hrw.out X HX.out HPOS.out HFIT.out HONE.out w.heap.size w hb (Nat.le_refl _) ?_); intro w2 HG2 hB2; clear c)
          rw [HL.out] at HG2
          go_roundw
          case rel => exact ⟨j + 1, q + X.length, d2, A2, by omega, by go_num, rfl, HQ, HG2, hB2⟩
          case measure => simp [intOf]; omega
        · have he : j = k := by omega
          subst he
          have hfin : wr.ownsRow w.heap.size 5 1 (.slice (some ⟨w.heap.size, 0, none⟩) m m) (partsL ps).length (bys (partsL ps)) := by
            have h9 := hrw.out
            rw [← HP.out, HM.out, laidP_all] at h9
            refine ⟨by rw [bys_length]; omega, .inr ⟨_, m, _, by rw [HM.out], Nat.le_refl _, h9, by rw [HM.out]; exact Nat.le_refl _, by simp only [maxLen]; omega, by simp [bys_length, HM.out], ?_⟩⟩
            simp [bys_length, List.take_of_length_le]
          have HF := Lib.hid hfin
          clear hfin hrw hq
          go_wp2
          go_ret
          exact ⟨_, rfl, HF.out, hb⟩

end Go.Proofs.Ytgdhhhibkhfdlaa
