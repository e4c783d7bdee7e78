/- What FnRecs says of records, in plain lists; two records compared. -/
import Derived.Test.YtannedjfmgflpaaGreatDoorRecPure
import Derived.Test.YtannedjfmgflpaaGreatDoorConfBack
import Derived.Test.YtannedjfmgflpaaGreatDoorRecOkI
import Derived.Test.YtannedjfmgflpaaGreatDoorGetRec
import Derived.Test.YtannedjfmgflpaaGreatDoorDbNe
namespace Go.Proofs.YtannedjfmgflpaaGreatDoor
open Go.RowKit
set_option maxRecDepth 100000
set_option linter.unusedVariables false

theorem rec_parts {r : Rec} (h : recB r = true) : (1 ≤ r.n ∧ r.n ≤ 60000) ∧ (1 ≤ r.kind ∧ r.kind ≤ 3) ∧ (0 ≤ r.owner ∧ r.owner ≤ 1) ∧ okB r.text.data.toList = true := by
  have hnil : nilB r.text = true → okB r.text.data.toList = true := fun h => by rw [(nilB_iff _).1 h]; exact okB_nil
  have htxt : txtB r.text = true → okB r.text.data.toList = true := fun h => by
    unfold txtB at h
    exact parse_ok (xs := (parseS r.text.data.toList).1) (by rw [← h])
  unfold recB at h
  rw [Bool.and_eq_true] at h
  obtain ⟨h0, h⟩ := h
  refine ⟨of_decide_eq_true h0, ?_⟩
  split at h
  · rename_i hk
    rw [Bool.and_eq_true] at h
    have ho := of_decide_eq_true h.1
    exact ⟨by omega, by omega, htxt h.2⟩
  · split at h
    · rename_i hk
      rw [Bool.and_eq_true] at h
      have ho := of_decide_eq_true h.1
      exact ⟨by omega, by omega, hnil h.2⟩
    · rw [Bool.and_eq_true, Bool.and_eq_true] at h
      have hk := of_decide_eq_true h.1
      have ho := of_decide_eq_true h.2.1
      exact ⟨by omega, by omega, hnil h.2.2⟩

theorem putR_yes {g p : Int} {r : Rec} (hr : recB r = true) (hg : 0 ≤ g ∧ g ≤ 65535) (hp : 0 ≤ p ∧ p ≤ 65535) : putR g p r = withSum (recBody g p r) := if_pos ⟨hr, hg, hp⟩
theorem putR_no {g p : Int} {r : Rec} (h : ¬ (recB r = true ∧ (0 ≤ g ∧ g ≤ 65535) ∧ (0 ≤ p ∧ p ≤ 65535))) : putR g p r = [] := if_neg h

theorem word_at {l : List UInt8} {k : Nat} {n : Int} (h0 : 0 ≤ n) (h1 : n ≤ 65535) (hl : k + 2 ≤ l.length) (hx : l[k]? = some (u8 (n / 256))) (hy : l[k + 1]? = some (u8 n)) : gwVal l k = n := by
  rw [(gw_yes hl hx hy).2.1, u8_cell, u8_cell]
  omega

theorem rec_round {g p : Int} {r : Rec} (hr : recB r = true) (hg : 0 ≤ g ∧ g ≤ 65535) (hp : 0 ≤ p ∧ p ≤ 65535) :
    getOk (putR g p r) = true ∧ gwVal (putR g p r) 0 = g ∧ gwVal (putR g p r) 2 = p ∧ recAt (putR g p r) = r ∧ 11 ≤ (putR g p r).length := by
  obtain ⟨hn, hk, ho, ht⟩ := rec_parts hr
  have e : putR g p r = u8 (g / 256) :: u8 g :: u8 (p / 256) :: u8 p :: u8 r.kind :: u8 (r.n / 256) :: u8 r.n :: u8 r.owner :: u8 (r.text.data.toList.length : Int) :: (r.text.data.toList ++ wordBytes (crc (recBody g p r))) := by
    rw [putR_yes hr hg hp]
    unfold withSum
    conv => lhs; arg 1; unfold recBody ptB
    rw [if_pos ht]
    simp [wordBytes]
  have hlen : 11 ≤ (putR g p r).length := by rw [e]; simp [wordBytes]
  have w0 : gwVal (putR g p r) 0 = g := word_at (k := 0) hg.1 hg.2 (by omega) (by rw [e]; rfl) (by rw [e]; rfl)
  have w2 : gwVal (putR g p r) 2 = p := word_at (k := 2) hp.1 hp.2 (by omega) (by rw [e]; rfl) (by rw [e]; rfl)
  have w5 : gwVal (putR g p r) 5 = r.n := word_at (k := 5) (by omega) (by omega) (by omega) (by rw [e]; rfl) (by rw [e]; rfl)
  have hgt : gtS (putR g p r) 8 = r.text := by
    have hm := gt_mid (l := [u8 (g / 256), u8 g, u8 (p / 256), u8 p, u8 r.kind, u8 (r.n / 256), u8 r.n, u8 r.owner]) (t := wordBytes (crc (recBody g p r))) ht
    have e2 : ptB [u8 (g / 256), u8 g, u8 (p / 256), u8 p, u8 r.kind, u8 (r.n / 256), u8 r.n, u8 r.owner] r.text.data.toList ++ wordBytes (crc (recBody g p r)) = putR g p r := by
      rw [e]
      unfold ptB
      rw [if_pos ht]
      simp
    rw [e2] at hm
    have h8 := (gt_some (p := 8) hm).1
    rw [h8]
  have hrec : recAt (putR g p r) = r := by
    unfold recAt
    rw [w5, hgt, getD_of (k := 4) (u := u8 r.kind) (by rw [e]; rfl), getD_of (k := 7) (u := u8 r.owner) (by rw [e]; rfl), u8_cell, u8_cell]
    obtain ⟨a, b, c, d⟩ := r
    have h1 : a % 256 = a := by simp at hk; omega
    have h2 : c % 256 = c := by simp at ho; omega
    show (⟨a % 256, b, c % 256, d⟩ : Rec) = ⟨a, b, c, d⟩
    rw [h1, h2]
  refine ⟨?_, w0, w2, hrec, hlen⟩
  rw [getOk_long hlen, w0, w2, hrec]
  simp
/-- With a byte turned it is a record's no more. -/
theorem rec_turned {g p : Int} {r : Rec} {i : Nat} {b b' : UInt8} (hr : recB r = true) (hg : 0 ≤ g ∧ g ≤ 65535) (hp : 0 ≤ p ∧ p ≤ 65535) (hi : (putR g p r)[i]? = some b) (hne : b' ≠ b) : getOk ((putR g p r).set i b') = false := by
  rw [putR_yes hr hg hp] at hi ⊢
  exact getOk_turned (sum_turned hi hne)
/-- What is read is what was written. -/
theorem get_back {b : List UInt8} (h : getOk b = true) : putR (gwVal b 0) (gwVal b 2) (recAt b) = b := by
  unfold getOk at h
  rw [Bool.and_eq_true, beq_iff_eq] at h
  exact h.2

def recEqB (x y : Rec) : Bool := (x.kind == y.kind) && ((x.n == y.n) && ((x.owner == y.owner) && (x.text.toList == y.text.toList)))
theorem recEqB_self (x : Rec) : recEqB x x = true := by simp [recEqB]
theorem Tryz.recStruct : Tryz.prog.underlying 25 = some (.struct (Tryz.prog.fieldsOf 25)) := by kernel_rfl
theorem Tryz.recStood : Tryz.prog.stoodInHeld 25 = false := by kernel_rfl
theorem Tryz.recGuard : Tryz.prog.eqGuardType Tryz.prog.depth 25 = false := by kernel_rfl
theorem Tryz.recFields : ((Tryz.prog.fieldsOf 25).toList.map fun f => (f.type, f.offset, decide (f.name = "_"))) = [(3, 0, false), (3, 1, false), (3, 2, false), (9, 3, false)] := by kernel_rfl
theorem four {α : Type} {g : Field → α} {fs : List Field} {a b c d : α} (h : fs.map g = [a, b, c, d]) : ∃ f1 f2 f3 f4, fs = [f1, f2, f3, f4] ∧ g f1 = a ∧ g f2 = b ∧ g f3 = c ∧ g f4 = d := by
  match fs, h with
  | [f1, f2, f3, f4], h =>
    simp only [List.map_cons, List.map_nil, List.cons.injEq, and_true] at h
    exact ⟨f1, f2, f3, f4, rfl, h⟩
theorem rec_equal (x y : Rec) (w : World) : (Op.equalIn 10000 25 (.agg (recC x).toArray) (.agg (recC y).toArray)).run Tryz.prog w = .ok (recEqB x y) w := by
  rw [run_equalIn_struct w 9999 _ _ _ Tryz.recStruct Tryz.recStood]
  obtain ⟨f1, f2, f3, f4, hfs, h1, h2, h3, h4⟩ := four Tryz.recFields
  rw [hfs]
  rw [eqFields_cons 9999 _ _ f1 _ _ _ (.int .i64 x.kind) (.int .i64 y.kind) (x.kind == y.kind) w h1 (run_part_plain w Tryz.intKey rfl) (run_part_plain w Tryz.intKey rfl) (run_equalIn_int w _ _ _ _ _ _ Tryz.underlying3)]
  rw [eqFields_cons 9999 _ _ f2 _ _ _ (.int .i64 x.n) (.int .i64 y.n) (x.n == y.n) w h2 (run_part_plain w Tryz.intKey rfl) (run_part_plain w Tryz.intKey rfl) (run_equalIn_int w _ _ _ _ _ _ Tryz.underlying3)]
  rw [eqFields_cons 9999 _ _ f3 _ _ _ (.int .i64 x.owner) (.int .i64 y.owner) (x.owner == y.owner) w h3 (run_part_plain w Tryz.intKey rfl) (run_part_plain w Tryz.intKey rfl) (run_equalIn_int w _ _ _ _ _ _ Tryz.underlying3)]
  rw [eqFields_cons 9999 _ _ f4 _ _ _ (.string x.text) (.string y.text) (x.text.toList == y.text.toList) w h4 (run_part_plain w Tryz.strKey rfl) (run_part_plain w Tryz.strKey rfl) (run_equalIn_string w _ _ _ _ Tryz.underlying9)]
  unfold recEqB
  generalize (x.kind == y.kind) = b1
  generalize (x.n == y.n) = b2
  generalize (x.owner == y.owner) = b3
  generalize (x.text.toList == y.text.toList) = b4
  cases b1 <;> cases b2 <;> cases b3 <;> cases b4 <;> simp [Op.eqFields, Sem.run_pure]
theorem rec_guard (op : BinOp) (a b : Operand) (x y : Rec) (w : World) : (eqGuard op 25 a b (.agg (recC x).toArray) (.agg (recC y).toArray)).run Tryz.prog w = .ok () w := run_eqGuard_agg w op _ a b _ _ Tryz.recGuard

end Go.Proofs.YtannedjfmgflpaaGreatDoor
