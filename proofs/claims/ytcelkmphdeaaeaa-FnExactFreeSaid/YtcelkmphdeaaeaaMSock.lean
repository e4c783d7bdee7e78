/- Lists of Sock, marked and held. (By gen_nestm.py.) -/
import Derived.Test.YtcelkmphdeaaeaaNLSock
import Derived.Test.YtcelkmphdeaaeaaOpened
namespace Go.Proofs.Ytcelkmphdeaaeaa
open Go.RowKit
set_option maxRecDepth 100000
set_option linter.unusedVariables false

theorem sk_put0 {w : World} {base : Nat} {c : List Value} {x : Sk} {f : List Nat} (h : skR.own w base c x f) (v : Int) : skR.own w base (c.set 0 (.int .i64 v)) ⟨v, x.kind, x.hold, x.shut, x.inn, x.out, x.st, x.done⟩ f := by
  obtain ⟨v4, v5, rfl, o4, o5, rfl, hn⟩ := sk_inv h
  exact sk_ownW (x := ⟨v, x.kind, x.hold, x.shut, x.inn, x.out, x.st, x.done⟩) o4 o5 hn
theorem sk_put1 {w : World} {base : Nat} {c : List Value} {x : Sk} {f : List Nat} (h : skR.own w base c x f) (v : Int) : skR.own w base (c.set 1 (.int .i64 v)) ⟨x.id, v, x.hold, x.shut, x.inn, x.out, x.st, x.done⟩ f := by
  obtain ⟨v4, v5, rfl, o4, o5, rfl, hn⟩ := sk_inv h
  exact sk_ownW (x := ⟨x.id, v, x.hold, x.shut, x.inn, x.out, x.st, x.done⟩) o4 o5 hn
theorem sk_put2 {w : World} {base : Nat} {c : List Value} {x : Sk} {f : List Nat} (h : skR.own w base c x f) (v : Int) : skR.own w base (c.set 2 (.int .i64 v)) ⟨x.id, x.kind, v, x.shut, x.inn, x.out, x.st, x.done⟩ f := by
  obtain ⟨v4, v5, rfl, o4, o5, rfl, hn⟩ := sk_inv h
  exact sk_ownW (x := ⟨x.id, x.kind, v, x.shut, x.inn, x.out, x.st, x.done⟩) o4 o5 hn
theorem sk_put3 {w : World} {base : Nat} {c : List Value} {x : Sk} {f : List Nat} (h : skR.own w base c x f) (v : Bool) : skR.own w base (c.set 3 (.bool v)) ⟨x.id, x.kind, x.hold, v, x.inn, x.out, x.st, x.done⟩ f := by
  obtain ⟨v4, v5, rfl, o4, o5, rfl, hn⟩ := sk_inv h
  exact sk_ownW (x := ⟨x.id, x.kind, x.hold, v, x.inn, x.out, x.st, x.done⟩) o4 o5 hn
theorem sk_put6 {w : World} {base : Nat} {c : List Value} {x : Sk} {f : List Nat} (h : skR.own w base c x f) (v : Int) : skR.own w base (c.set 6 (.int .i64 v)) ⟨x.id, x.kind, x.hold, x.shut, x.inn, x.out, v, x.done⟩ f := by
  obtain ⟨v4, v5, rfl, o4, o5, rfl, hn⟩ := sk_inv h
  exact sk_ownW (x := ⟨x.id, x.kind, x.hold, x.shut, x.inn, x.out, v, x.done⟩) o4 o5 hn
theorem sk_put7 {w : World} {base : Nat} {c : List Value} {x : Sk} {f : List Nat} (h : skR.own w base c x f) (v : Int) : skR.own w base (c.set 7 (.int .i64 v)) ⟨x.id, x.kind, x.hold, x.shut, x.inn, x.out, x.st, v⟩ f := by
  obtain ⟨v4, v5, rfl, o4, o5, rfl, hn⟩ := sk_inv h
  exact sk_ownW (x := ⟨x.id, x.kind, x.hold, x.shut, x.inn, x.out, x.st, v⟩) o4 o5 hn
theorem sk_get {w : World} {base : Nat} {x : Sk} {f : List Nat} {a0 a1 a2 a3 v4 v5 a6 a7 : Value} (h : skR.own w base [a0, a1, a2, a3, v4, v5, a6, a7] x f) : Win w base 5 v4 x.inn ∧ Win w base 5 v5 x.out ∧ f = v4.ownBlock.toList ++ (v5.ownBlock.toList ++ []) ∧ f.Nodup ∧ [a0, a1, a2, a3, a6, a7] = [.int .i64 x.id, .int .i64 x.kind, .int .i64 x.hold, .bool x.shut, .int .i64 x.st, .int .i64 x.done] := by
  obtain ⟨w4, w5, hc, o4, o5, hf, hn⟩ := sk_inv h
  simp only [List.cons.injEq, and_true] at hc
  obtain ⟨rfl, rfl, rfl, rfl, rfl, rfl, rfl, rfl⟩ := hc
  exact ⟨o4, o5, hf, hn, rfl⟩
theorem sk_putY4 {w w' : World} {base : Nat} {x : Sk} {f : List Nat} {a0 a1 a2 a3 v4 v5 a6 a7 : Value} {l : List UInt8} (h : skR.own w base [a0, a1, a2, a3, v4, v5, a6, a7] x f) (hg : w.grownBy w' v4.ownBlock) (hl : Win w' base 5 v4 l) : skR.own w' base [a0, a1, a2, a3, v4, v5, a6, a7] ⟨x.id, x.kind, x.hold, x.shut, l, x.out, x.st, x.done⟩ f ∧ Rep.Only w w' f := by
  obtain ⟨o4, o5, hf, hn, hc⟩ := sk_get h
  simp only [List.cons.injEq, and_true] at hc
  obtain ⟨rfl, rfl, rfl, rfl, rfl, rfl⟩ := hc
  subst hf
  refine ⟨?_, Rep.Only.of_grown hg (fun a ha => by rw [ha]; simp)⟩
  replace o5 : Win w' base 5 v5 x.out := Win.block o5 fun g hg9 => by
    replace hg9 : v5.ownBlock = some g := by simpa using hg9
    exact hg.block g (o5.lt g hg9).2 (fun e9 => sk_split hn g e9.symm hg9)
  exact sk_ownW (x := ⟨x.id, x.kind, x.hold, x.shut, l, x.out, x.st, x.done⟩) hl o5 hn
theorem sk_putY5 {w w' : World} {base : Nat} {x : Sk} {f : List Nat} {a0 a1 a2 a3 v4 v5 a6 a7 : Value} {l : List UInt8} (h : skR.own w base [a0, a1, a2, a3, v4, v5, a6, a7] x f) (hg : w.grownBy w' v5.ownBlock) (hl : Win w' base 5 v5 l) : skR.own w' base [a0, a1, a2, a3, v4, v5, a6, a7] ⟨x.id, x.kind, x.hold, x.shut, x.inn, l, x.st, x.done⟩ f ∧ Rep.Only w w' f := by
  obtain ⟨o4, o5, hf, hn, hc⟩ := sk_get h
  simp only [List.cons.injEq, and_true] at hc
  obtain ⟨rfl, rfl, rfl, rfl, rfl, rfl⟩ := hc
  subst hf
  refine ⟨?_, Rep.Only.of_grown hg (fun a ha => by rw [ha]; simp)⟩
  replace o4 : Win w' base 5 v4 x.inn := Win.block o4 fun g hg9 => by
    replace hg9 : v4.ownBlock = some g := by simpa using hg9
    exact hg.block g (o4.lt g hg9).2 (fun e9 => sk_split hn g hg9 e9.symm)
  exact sk_ownW (x := ⟨x.id, x.kind, x.hold, x.shut, x.inn, l, x.st, x.done⟩) o4 hl hn

set_option maxHeartbeats 16000000 in
theorem markSkS_row (g c k0 : Nat) (xs : List Sk) (fp : List Nat) (w : World) (base : Nat) (h : Rep.OwnRows skR 25 w base (.slice (some ⟨g, 0, none⟩) xs.length c) xs fp) (hs : FitsSkS xs) (hk0 : k0 ≤ 4398046511104) (hcnt : Rep.cntL skR xs ≤ 8796093022208) :
    Calls Try.prog 60 #[.slice (some ⟨g, 0, none⟩) xs.length c, .int .i64 k0] w fun e w' => e = .returned (.int .i64 (k0 + Rep.cntL skR xs : Nat)) ∧ Rep.OwnRows skR 25 w' base (.slice (some ⟨g, 0, none⟩) xs.length c) (Rep.mkL skR k0 xs) fp ∧ Rep.Only w w' fp := by
  have HM := Lib.hid hs
  have hn := hs.1
  clear hs
  go_enter Try.func60, Try.ntmps60
  go_wp2
  go_loopw [1, 5] (fun q i wr => ∃ k m : Nat, k ≤ xs.length ∧ i = .int .i64 k ∧ q = .int .i64 m ∧ Hid (m = k0 + Rep.cntL skR (xs.take k)) ∧ Rep.Only w wr fp ∧ Rep.OwnRows skR 25 wr base (.slice (some ⟨g, 0, none⟩) xs.length c) (Rep.mkTo skR k0 k xs) fp) (fun _ i _ => xs.length - (intOf i).toNat)
  case atStart => exact ⟨0, k0, by omega, rfl, rfl, Lib.hid (by simp [Rep.cntL]), Rep.Only.refl _ _, by rw [Rep.mkTo_zero]; exact h⟩
  case round =>
    obtain ⟨k, m, hk, rfl, rfl, hm, ho, hown⟩ := hrel
    clear h
    by_cases hlt : k < xs.length
    · obtain ⟨x, hx⟩ := Rep.getElem?_of_lt rfl hlt
      have hfx := HM.out.2 x (List.mem_of_getElem? hx)
      have HX := Lib.hid hx
      have hkc := Rep.cntL_le skR xs k
      have hm1 : m ≤ 13194139533312 := by have := hm.out; omega
      unfold FitsSk at hfx
      have HE := Lib.hid (Rep.mkTo_succ skR (k := k0) HX.out)
      have HN := Lib.hid (Rep.cntL_succ skR HX.out)
      have hlk := Lib.hid (Rep.mkTo_length skR k0 k xs hk)
      have HG := Lib.hid (Rep.mkTo_get skR (k := k0) HX.out)
      clear hx hkc
      obtain ⟨cs, f, O⟩ := Rep.Opened.of' hown hlk.out HG.out
      obtain ⟨v4, v5, rfl, o4, o5, hf, hnd⟩ := sk_inv O.own
      subst hf
      clear hown HG o4 o5
      have c0 : wr.cell? ⟨g, k * 8, none⟩ = some (.int .i64 x.id) := O.cell (j := 0) rfl
      have c1 : wr.cell? ⟨g, k * 8 + 1, none⟩ = some (.int .i64 x.kind) := O.cell (j := 1) rfl
      have c2 : wr.cell? ⟨g, k * 8 + 2, none⟩ = some (.int .i64 x.hold) := O.cell (j := 2) rfl
      have c3 : wr.cell? ⟨g, k * 8 + 3, none⟩ = some (.bool x.shut) := O.cell (j := 3) rfl
      have c4 : wr.cell? ⟨g, k * 8 + 4, none⟩ = some (v4) := O.cell (j := 4) rfl
      have c5 : wr.cell? ⟨g, k * 8 + 5, none⟩ = some (v5) := O.cell (j := 5) rfl
      have c6 : wr.cell? ⟨g, k * 8 + 6, none⟩ = some (.int .i64 x.st) := O.cell (j := 6) rfl
      have c7 : wr.cell? ⟨g, k * 8 + 7, none⟩ = some (.int .i64 x.done) := O.cell (j := 7) rfl
      have t0 : wr.frozen? ⟨g, k * 8, none⟩ = false := O.frz _
      have t1 : wr.frozen? ⟨g, k * 8 + 1, none⟩ = false := O.frz _
      have t2 : wr.frozen? ⟨g, k * 8 + 2, none⟩ = false := O.frz _
      have t3 : wr.frozen? ⟨g, k * 8 + 3, none⟩ = false := O.frz _
      have t4 : wr.frozen? ⟨g, k * 8 + 4, none⟩ = false := O.frz _
      have t5 : wr.frozen? ⟨g, k * 8 + 5, none⟩ = false := O.frz _
      have t6 : wr.frozen? ⟨g, k * 8 + 6, none⟩ = false := O.frz _
      have t7 : wr.frozen? ⟨g, k * 8 + 7, none⟩ = false := O.frz _
      go_wp2_with fail
      clear c0 t0 c1 t1 c2 t2 c3 t3 c4 t4 c5 t5 c6 t6 c7 t7
      replace ho := ho.trans (O.setOnly (k * 8) (.int .i64 ((m : Int))))
      replace O : Rep.Opened skR 25 (wr.setCell ⟨g, k * 8, none⟩ (.int .i64 ((m : Int)))) base g c k _ fp (⟨((m : Nat) : Int), x.kind, x.hold, x.shut, x.inn, x.out, x.st, x.done⟩ : Sk) [.int .i64 ((m : Int)), .int .i64 x.kind, .int .i64 x.hold, .bool x.shut, v4, v5, .int .i64 x.st, .int .i64 x.done] (v4.ownBlock.toList ++ (v5.ownBlock.toList ++ [])) := O.put 0 (.int .i64 ((m : Int))) (by decide) (sk_put0 (O.ownSet _ _) ((m : Int)))
      replace ho := ho.trans (O.setOnly (k * 8 + 1) (.int .i64 ((m : Int) + 1)))
      replace O : Rep.Opened skR 25 ((wr.setCell ⟨g, k * 8, none⟩ (.int .i64 ((m : Int)))).setCell ⟨g, k * 8 + 1, none⟩ (.int .i64 ((m : Int) + 1))) base g c k _ fp (⟨((m : Nat) : Int), ((m + 1 : Nat) : Int), x.hold, x.shut, x.inn, x.out, x.st, x.done⟩ : Sk) [.int .i64 ((m : Int)), .int .i64 ((m : Int) + 1), .int .i64 x.hold, .bool x.shut, v4, v5, .int .i64 x.st, .int .i64 x.done] (v4.ownBlock.toList ++ (v5.ownBlock.toList ++ [])) := O.put 1 (.int .i64 ((m : Int) + 1)) (by decide) (sk_put1 (O.ownSet _ _) ((m : Int) + 1))
      replace ho := ho.trans (O.setOnly (k * 8 + 2) (.int .i64 ((m : Int) + 1 + 1)))
      replace O : Rep.Opened skR 25 (((wr.setCell ⟨g, k * 8, none⟩ (.int .i64 ((m : Int)))).setCell ⟨g, k * 8 + 1, none⟩ (.int .i64 ((m : Int) + 1))).setCell ⟨g, k * 8 + 2, none⟩ (.int .i64 ((m : Int) + 1 + 1))) base g c k _ fp (⟨((m : Nat) : Int), ((m + 1 : Nat) : Int), ((m + 2 : Nat) : Int), x.shut, x.inn, x.out, x.st, x.done⟩ : Sk) [.int .i64 ((m : Int)), .int .i64 ((m : Int) + 1), .int .i64 ((m : Int) + 1 + 1), .bool x.shut, v4, v5, .int .i64 x.st, .int .i64 x.done] (v4.ownBlock.toList ++ (v5.ownBlock.toList ++ [])) := O.put 2 (.int .i64 ((m : Int) + 1 + 1)) (by decide) (sk_put2 (O.ownSet _ _) ((m : Int) + 1 + 1))
      replace ho := ho.trans (O.setOnly (k * 8 + 3) (.bool (((m : Int) + 1 + 1 + 1) % 3 == 0)))
      replace O : Rep.Opened skR 25 ((((wr.setCell ⟨g, k * 8, none⟩ (.int .i64 ((m : Int)))).setCell ⟨g, k * 8 + 1, none⟩ (.int .i64 ((m : Int) + 1))).setCell ⟨g, k * 8 + 2, none⟩ (.int .i64 ((m : Int) + 1 + 1))).setCell ⟨g, k * 8 + 3, none⟩ (.bool (((m : Int) + 1 + 1 + 1) % 3 == 0))) base g c k _ fp (⟨((m : Nat) : Int), ((m + 1 : Nat) : Int), ((m + 2 : Nat) : Int), (((m + 3 : Nat) : Int) % 3 == 0), x.inn, x.out, x.st, x.done⟩ : Sk) [.int .i64 ((m : Int)), .int .i64 ((m : Int) + 1), .int .i64 ((m : Int) + 1 + 1), .bool (((m : Int) + 1 + 1 + 1) % 3 == 0), v4, v5, .int .i64 x.st, .int .i64 x.done] (v4.ownBlock.toList ++ (v5.ownBlock.toList ++ [])) := O.put 3 (.bool (((m : Int) + 1 + 1 + 1) % 3 == 0)) (by decide) (sk_put3 (O.ownSet _ _) (((m : Int) + 1 + 1 + 1) % 3 == 0))
      generalize ((((wr.setCell ⟨g, k * 8, none⟩ (.int .i64 ((m : Int)))).setCell ⟨g, k * 8 + 1, none⟩ (.int .i64 ((m : Int) + 1))).setCell ⟨g, k * 8 + 2, none⟩ (.int .i64 ((m : Int) + 1 + 1))).setCell ⟨g, k * 8 + 3, none⟩ (.bool (((m : Int) + 1 + 1 + 1) % 3 == 0))) = W1 at O ho ⊢
      refine (markByteS_win v4 (m + 4) x.inn W1 base (sk_get O.own).1 (by omega) (by omega)).mono ?_
      rintro e V1 ⟨rfl, hn4, hg⟩
      obtain ⟨hq, hon⟩ := sk_putY4 O.own hg hn4
      replace O := O.inner hon hq
      replace ho := ho.trans (hon.mono O.blocks.2.2.1)
      clear hq hon hg hn4
      have c0 : V1.cell? ⟨g, k * 8, none⟩ = some (.int .i64 ((m : Int))) := O.cell (j := 0) rfl
      have c1 : V1.cell? ⟨g, k * 8 + 1, none⟩ = some (.int .i64 ((m : Int) + 1)) := O.cell (j := 1) rfl
      have c2 : V1.cell? ⟨g, k * 8 + 2, none⟩ = some (.int .i64 ((m : Int) + 1 + 1)) := O.cell (j := 2) rfl
      have c3 : V1.cell? ⟨g, k * 8 + 3, none⟩ = some (.bool (((m : Int) + 1 + 1 + 1) % 3 == 0)) := O.cell (j := 3) rfl
      have c4 : V1.cell? ⟨g, k * 8 + 4, none⟩ = some (v4) := O.cell (j := 4) rfl
      have c5 : V1.cell? ⟨g, k * 8 + 5, none⟩ = some (v5) := O.cell (j := 5) rfl
      have c6 : V1.cell? ⟨g, k * 8 + 6, none⟩ = some (.int .i64 x.st) := O.cell (j := 6) rfl
      have c7 : V1.cell? ⟨g, k * 8 + 7, none⟩ = some (.int .i64 x.done) := O.cell (j := 7) rfl
      have t0 : V1.frozen? ⟨g, k * 8, none⟩ = false := O.frz _
      have t1 : V1.frozen? ⟨g, k * 8 + 1, none⟩ = false := O.frz _
      have t2 : V1.frozen? ⟨g, k * 8 + 2, none⟩ = false := O.frz _
      have t3 : V1.frozen? ⟨g, k * 8 + 3, none⟩ = false := O.frz _
      have t4 : V1.frozen? ⟨g, k * 8 + 4, none⟩ = false := O.frz _
      have t5 : V1.frozen? ⟨g, k * 8 + 5, none⟩ = false := O.frz _
      have t6 : V1.frozen? ⟨g, k * 8 + 6, none⟩ = false := O.frz _
      have t7 : V1.frozen? ⟨g, k * 8 + 7, none⟩ = false := O.frz _
      go_wp2_with fail
      clear c0 t0 c1 t1 c2 t2 c3 t3 c4 t4 c5 t5 c6 t6 c7 t7
      refine (markByteS_win v5 (m + 4 + x.inn.length) x.out V1 base (sk_get O.own).2.1 (by omega) (by omega)).mono ?_
      rintro e V2 ⟨rfl, hn5, hg⟩
      obtain ⟨hq, hon⟩ := sk_putY5 O.own hg hn5
      replace O := O.inner hon hq
      replace ho := ho.trans (hon.mono O.blocks.2.2.1)
      clear hq hon hg hn5
      have c0 : V2.cell? ⟨g, k * 8, none⟩ = some (.int .i64 ((m : Int))) := O.cell (j := 0) rfl
      have c1 : V2.cell? ⟨g, k * 8 + 1, none⟩ = some (.int .i64 ((m : Int) + 1)) := O.cell (j := 1) rfl
      have c2 : V2.cell? ⟨g, k * 8 + 2, none⟩ = some (.int .i64 ((m : Int) + 1 + 1)) := O.cell (j := 2) rfl
      have c3 : V2.cell? ⟨g, k * 8 + 3, none⟩ = some (.bool (((m : Int) + 1 + 1 + 1) % 3 == 0)) := O.cell (j := 3) rfl
      have c4 : V2.cell? ⟨g, k * 8 + 4, none⟩ = some (v4) := O.cell (j := 4) rfl
      have c5 : V2.cell? ⟨g, k * 8 + 5, none⟩ = some (v5) := O.cell (j := 5) rfl
      have c6 : V2.cell? ⟨g, k * 8 + 6, none⟩ = some (.int .i64 x.st) := O.cell (j := 6) rfl
      have c7 : V2.cell? ⟨g, k * 8 + 7, none⟩ = some (.int .i64 x.done) := O.cell (j := 7) rfl
      have t0 : V2.frozen? ⟨g, k * 8, none⟩ = false := O.frz _
      have t1 : V2.frozen? ⟨g, k * 8 + 1, none⟩ = false := O.frz _
      have t2 : V2.frozen? ⟨g, k * 8 + 2, none⟩ = false := O.frz _
      have t3 : V2.frozen? ⟨g, k * 8 + 3, none⟩ = false := O.frz _
      have t4 : V2.frozen? ⟨g, k * 8 + 4, none⟩ = false := O.frz _
      have t5 : V2.frozen? ⟨g, k * 8 + 5, none⟩ = false := O.frz _
      have t6 : V2.frozen? ⟨g, k * 8 + 6, none⟩ = false := O.frz _
      have t7 : V2.frozen? ⟨g, k * 8 + 7, none⟩ = false := O.frz _
      go_wp2_with fail
      clear c0 t0 c1 t1 c2 t2 c3 t3 c4 t4 c5 t5 c6 t6 c7 t7
      replace ho := ho.trans (O.setOnly (k * 8 + 6) (.int .i64 (((m + 4 + x.inn.length + x.out.length : Nat) : Int))))
      replace O : Rep.Opened skR 25 (V2.setCell ⟨g, k * 8 + 6, none⟩ (.int .i64 (((m + 4 + x.inn.length + x.out.length : Nat) : Int)))) base g c k _ fp (⟨((m : Nat) : Int), ((m + 1 : Nat) : Int), ((m + 2 : Nat) : Int), (((m + 3 : Nat) : Int) % 3 == 0), marks (m + 4) x.inn.length, marks (m + 4 + x.inn.length) x.out.length, ((m + 4 + x.inn.length + x.out.length : Nat) : Int), x.done⟩ : Sk) [.int .i64 ((m : Int)), .int .i64 ((m : Int) + 1), .int .i64 ((m : Int) + 1 + 1), .bool (((m : Int) + 1 + 1 + 1) % 3 == 0), v4, v5, .int .i64 (((m + 4 + x.inn.length + x.out.length : Nat) : Int)), .int .i64 x.done] (v4.ownBlock.toList ++ (v5.ownBlock.toList ++ [])) := O.put 6 (.int .i64 (((m + 4 + x.inn.length + x.out.length : Nat) : Int))) (by decide) (sk_put6 (O.ownSet _ _) (((m + 4 + x.inn.length + x.out.length : Nat) : Int)))
      replace ho := ho.trans (O.setOnly (k * 8 + 7) (.int .i64 (((m + 4 + x.inn.length + x.out.length : Nat) : Int) + 1)))
      replace O : Rep.Opened skR 25 ((V2.setCell ⟨g, k * 8 + 6, none⟩ (.int .i64 (((m + 4 + x.inn.length + x.out.length : Nat) : Int)))).setCell ⟨g, k * 8 + 7, none⟩ (.int .i64 (((m + 4 + x.inn.length + x.out.length : Nat) : Int) + 1))) base g c k _ fp (⟨((m : Nat) : Int), ((m + 1 : Nat) : Int), ((m + 2 : Nat) : Int), (((m + 3 : Nat) : Int) % 3 == 0), marks (m + 4) x.inn.length, marks (m + 4 + x.inn.length) x.out.length, ((m + 4 + x.inn.length + x.out.length : Nat) : Int), ((m + 4 + x.inn.length + x.out.length + 1 : Nat) : Int)⟩ : Sk) [.int .i64 ((m : Int)), .int .i64 ((m : Int) + 1), .int .i64 ((m : Int) + 1 + 1), .bool (((m : Int) + 1 + 1 + 1) % 3 == 0), v4, v5, .int .i64 (((m + 4 + x.inn.length + x.out.length : Nat) : Int)), .int .i64 (((m + 4 + x.inn.length + x.out.length : Nat) : Int) + 1)] (v4.ownBlock.toList ++ (v5.ownBlock.toList ++ [])) := O.put 7 (.int .i64 (((m + 4 + x.inn.length + x.out.length : Nat) : Int) + 1)) (by decide) (sk_put7 (O.ownSet _ _) (((m + 4 + x.inn.length + x.out.length : Nat) : Int) + 1))
      have hfin := O.close' hlk.out
      go_roundw
      case rel => exact ⟨k + 1, m + 4 + x.inn.length + x.out.length + 2, by omega, by go_num, by go_num, Lib.hid (by rw [HN.out, sk_cnt, hm.out]; omega), ho, by rw [HE.out, ← hm.out, sk_mark]; exact hfin⟩
      case measure => simp [intOf]; omega
    · have he : k = xs.length := by omega
      subst he
      rw [Rep.mkTo_all] at hown
      have HT : Hid (xs.take xs.length = xs) := Lib.hid List.take_length
      go_wp2
      go_ret
      exact ⟨by rw [hm.out, HT.out]; rfl, hown, ho⟩

theorem cntSkS_le {xs : List Sk} (h : FitsSkS xs) : Rep.cntL skR xs ≤ 8796093022208 := by
  have : ∀ l : List Sk, (∀ x, x ∈ l → FitsSk x) → Rep.cntL skR l ≤ l.length * 4194310 := by
    intro l
    induction l with
    | nil => intro _; simp [Rep.cntL]
    | cons x xs ih =>
      intro h
      have h1 := ih fun y hy => h y (List.mem_cons_of_mem _ hy)
      have h2 := h x List.mem_cons_self
      unfold FitsSk at h2
      simp only [Rep.cntL, List.length_cons, sk_cnt]
      omega
  have h1 := this xs h.2
  have h2 := h.1
  omega

set_option maxHeartbeats 1000000 in
theorem markSkS_any (v : Value) (k0 : Nat) (xs : List Sk) (fp : List Nat) (w : World) (base : Nat) (h : Rep.OwnRows skR 25 w base v xs fp) (hs : FitsSkS xs) (hk0 : k0 ≤ 4398046511104) :
    Calls Try.prog 60 #[v, .int .i64 k0] w fun e w' => e = .returned (.int .i64 (k0 + Rep.cntL skR xs : Nat)) ∧ Rep.OwnRows skR 25 w' base v (Rep.mkL skR k0 xs) fp ∧ Rep.Only w w' fp := by
  obtain ⟨cells, fps, ho, hr⟩ := id h
  rcases ho.2 with ⟨rfl, h0⟩ | ⟨g, cap, cur, rfl, _⟩
  · have hl : xs = [] := List.eq_nil_of_length_eq_zero h0
    subst hl
    clear h0 ho hr
    go_enter Try.func60, Try.ntmps60
    go_wp2
    refine wp_loop_rounds 1 ?_
    rw [rounds_succ]
    go_wp2
    go_ret
    exact ⟨rfl, h, Rep.Only.refl _ _⟩
  · exact markSkS_row g cap k0 xs fp w base h hs hk0 (cntSkS_le hs)

set_option maxHeartbeats 8000000 in
theorem heldSkS_any (A : Option Addr) (c k0 : Nat) (xs : List Sk) (w : World) (h : Rep.RowsAt skR w w.heap.size A xs.length (Rep.mkL skR k0 xs)) (hs : FitsSkS xs) (hk0 : k0 ≤ 4398046511104) :
    Calls Try.prog 61 #[.slice A xs.length c, .int .i64 k0] w fun e w' => e = .returned (.int .i64 (k0 + Rep.cntL skR xs : Nat)) ∧ w = w' := by
  have hcnt := cntSkS_le hs
  have HM := Lib.hid hs
  have hn := hs.1
  clear hs
  go_enter Try.func61, Try.ntmps61
  go_wp2
  go_loop [1, 5] (fun q i => ∃ k m : Nat, k ≤ xs.length ∧ i = .int .i64 k ∧ q = .int .i64 m ∧ Hid (m = k0 + Rep.cntL skR (xs.take k))) (fun _ i => xs.length - (intOf i).toNat)
  case atStart => exact ⟨0, k0, by omega, rfl, rfl, Lib.hid (by simp [Rep.cntL])⟩
  case round =>
    obtain ⟨k, m, hk, rfl, rfl, hm⟩ := hrel
    have hkc := Rep.cntL_le skR xs k
    have hm1 : m ≤ 13194139533312 := by have := hm.out; omega
    by_cases hlt : k < xs.length
    · obtain ⟨y, hy⟩ := Rep.getElem?_of_lt (xs := xs) rfl hlt
      have hfy := HM.out.2 y (List.mem_of_getElem? hy)
      unfold FitsSk at hfy
      have HX := Lib.hid hy
      clear hy
      obtain ⟨b, off, x, A4, c4, A5, c5, rfl, hbl, hx, ⟨e0, e1, e2, e3, e4, e5, e6, e7⟩, hc4, hr4, hc5, hr5⟩ := sk_elem h hlt
      obtain rfl : skR.mark m y = x := by rw [Rep.mkL_get skR HX.out] at hx; injection hx with hx; rw [hm.out]; exact hx
      have HN := Lib.hid (Rep.cntL_succ skR HX.out)
      rw [sk_mark] at e0 e1 e2 e3 e4 e5 e6 e7 hr4 hr5
      clear hx hc4 hc5

      simp only [marks_length] at e4 hr4
      simp only [marks_length] at e5 hr5
      replace e0 : w.cell? ⟨b, off + k * 8, none⟩ = some (.int .i64 ((m : Int))) := e0
      have q0 : (((m : Int)) != ((m : Int))) = false := by simp
      replace e1 : w.cell? ⟨b, off + k * 8 + 1, none⟩ = some (.int .i64 ((m : Int) + 1)) := e1
      have q1 : (((m : Int) + 1) != ((m : Int) + 1)) = false := by simp
      replace e2 : w.cell? ⟨b, off + k * 8 + 2, none⟩ = some (.int .i64 ((m : Int) + 1 + 1)) := e2
      have q2 : (((m : Int) + 1 + 1) != ((m : Int) + 1 + 1)) = false := by simp
      replace e3 : w.cell? ⟨b, off + k * 8 + 3, none⟩ = some (.bool (((m : Int) + 1 + 1 + 1) % 3 == 0)) := e3
      have q3 : ((((m : Int) + 1 + 1 + 1) % 3 == 0) != (((m : Int) + 1 + 1 + 1) % 3 == 0)) = false := by simp
      replace e6 : w.cell? ⟨b, off + k * 8 + 6, none⟩ = some (.int .i64 (((m + 4 + y.inn.length + y.out.length : Nat) : Int))) := e6
      have q6 : ((((m + 4 + y.inn.length + y.out.length : Nat) : Int)) != (((m + 4 + y.inn.length + y.out.length : Nat) : Int))) = false := by simp
      replace e7 : w.cell? ⟨b, off + k * 8 + 7, none⟩ = some (.int .i64 (((m + 4 + y.inn.length + y.out.length : Nat) : Int) + 1)) := e7
      have q7 : ((((m + 4 + y.inn.length + y.out.length : Nat) : Int) + 1) != (((m + 4 + y.inn.length + y.out.length : Nat) : Int) + 1)) = false := by simp
      go_wp2_with fail
      refine (heldByteS_any A4 c4 (m + 4) y.inn.length w hr4 (by omega) (by omega)).mono ?_
      rintro e w4 ⟨rfl, rfl⟩
      have ng4 : ¬ (((m + 4 + y.inn.length : Nat) : Int) < 0) := by omega
      go_wp2_with fail
      refine (heldByteS_any A5 c5 (m + 4 + y.inn.length) y.out.length w hr5 (by omega) (by omega)).mono ?_
      rintro e w5 ⟨rfl, rfl⟩
      have ng5 : ¬ (((m + 4 + y.inn.length + y.out.length : Nat) : Int) < 0) := by omega
      go_wp2_with fail
      go_round
      case rel => exact ⟨k + 1, m + 4 + y.inn.length + y.out.length + 2, by omega, by go_num, by go_num, Lib.hid (by rw [HN.out, sk_cnt, hm.out]; omega)⟩
      case measure => simp [intOf]; omega
    · have he : k = xs.length := by omega
      subst he
      have HT : Hid (xs.take xs.length = xs) := Lib.hid List.take_length
      go_wp2
      go_ret
      exact ⟨by rw [hm.out, HT.out]; rfl, rfl⟩

end Go.Proofs.Ytcelkmphdeaaeaa
