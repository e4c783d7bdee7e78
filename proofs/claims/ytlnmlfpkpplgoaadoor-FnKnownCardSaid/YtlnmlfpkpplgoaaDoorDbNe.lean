/- Databases compared as structs. -/
import Derived.Test.YtlnmlfpkpplgoaaDoorConfEq
import Derived.Laws.StructEq
import Derived.ChangeKeysEq
import Derived.WalkKit
namespace Go.Proofs.YtlnmlfpkpplgoaaDoor
open Go.RowKit
set_option maxRecDepth 100000
set_option linter.unusedVariables false

def dbEqB (x y : Db) : Bool := (x.name.toList == y.name.toList) && ((x.size == y.size) && ((x.queue == y.queue) && ((x.wait == y.wait) && (x.idle == y.idle))))
theorem list_bytes {a b : ByteArray} (h : (a.toList == b.toList) = true) : a = b := by
  have h1 : a.toList = b.toList := by simpa using h
  obtain ⟨⟨l⟩⟩ := a
  obtain ⟨⟨m⟩⟩ := b
  rw [ByteArray.toList_mk, ByteArray.toList_mk] at h1
  rw [h1]
theorem dbEqB_true {x y : Db} (h : dbEqB x y = true) : x = y := by
  obtain ⟨a, b, c, d, e⟩ := x
  obtain ⟨a', b', c', d', e'⟩ := y
  simp only [dbEqB, Bool.and_eq_true] at h
  obtain ⟨h1, h2, h3, h4, h5⟩ := h
  have := list_bytes h1
  simp only [beq_iff_eq] at h2 h3 h4 h5
  subst this h2 h3 h4 h5
  rfl
theorem dbEqB_self (x : Db) : dbEqB x x = true := by simp [dbEqB]

theorem Tryd.dbStruct : Tryd.prog.underlying 79 = some (.struct (Tryd.prog.fieldsOf 79)) := by kernel_rfl
theorem Tryd.dbStood : Tryd.prog.stoodInHeld 79 = false := by kernel_rfl
theorem Tryd.dbGuard : Tryd.prog.eqGuardType Tryd.prog.depth 79 = false := by kernel_rfl
theorem Tryd.dbFields : ((Tryd.prog.fieldsOf 79).toList.map fun f => (f.type, f.offset, decide (f.name = "_"))) = [(9, 0, false), (3, 1, false), (3, 2, false), (3, 3, false), (3, 4, false)] := by kernel_rfl

theorem eqFields_cons {P : Program} (d : Nat) (xs ys : Array Value) (f : Field) (fs : List Field) (t o : Nat) (a b : Value) (r : Bool) (w : World) (hf : (f.type, f.offset, decide (f.name = "_")) = (t, o, false))
    (ha : (part t xs o).run P w = .ok a w) (hb : (part t ys o).run P w = .ok b w) (hr : (Op.equalIn d t a b).run P w = .ok r w) :
    (Op.eqFields d xs ys (f :: fs)).run P w = if r = true then (Op.eqFields d xs ys fs).run P w else .ok false w := by
  simp only [Prod.mk.injEq] at hf
  obtain ⟨rfl, rfl, h3⟩ := hf
  have h4 : f.name ≠ "_" := of_decide_eq_false h3
  simp only [Op.eqFields, if_pos h4, Sem.run_bind, ha, hb, hr, Result.andThen_ok]
  cases r
  · simp [Sem.run_pure]
  · simp
theorem Tryd.strKey : Tryd.prog.plainKey 9 = true := by kernel_rfl
theorem Tryd.intKey : Tryd.prog.plainKey 3 = true := by kernel_rfl
theorem five {α : Type} {g : Field → α} {fs : List Field} {a b c d e : α} (h : fs.map g = [a, b, c, d, e]) : ∃ f1 f2 f3 f4 f5, fs = [f1, f2, f3, f4, f5] ∧ g f1 = a ∧ g f2 = b ∧ g f3 = c ∧ g f4 = d ∧ g f5 = e := by
  match fs, h with
  | [f1, f2, f3, f4, f5], h =>
    simp only [List.map_cons, List.map_nil, List.cons.injEq, and_true] at h
    exact ⟨f1, f2, f3, f4, f5, rfl, h⟩

theorem db_equal (x y : Db) (w : World) : (Op.equalIn 10000 79 (.agg (dbC x).toArray) (.agg (dbC y).toArray)).run Tryd.prog w = .ok (dbEqB x y) w := by
  rw [run_equalIn_struct w 9999 _ _ _ Tryd.dbStruct Tryd.dbStood]
  obtain ⟨f1, f2, f3, f4, f5, hfs, h1, h2, h3, h4, h5⟩ := five Tryd.dbFields
  rw [hfs]
  rw [eqFields_cons 9999 _ _ f1 _ _ _ (.string x.name) (.string y.name) (x.name.toList == y.name.toList) w h1 (run_part_plain w Tryd.strKey rfl) (run_part_plain w Tryd.strKey rfl) (run_equalIn_string w _ _ _ _ Tryd.underlying9)]
  rw [eqFields_cons 9999 _ _ f2 _ _ _ (.int .i64 x.size) (.int .i64 y.size) (x.size == y.size) w h2 (run_part_plain w Tryd.intKey rfl) (run_part_plain w Tryd.intKey rfl) (run_equalIn_int w _ _ _ _ _ _ Tryd.underlying3)]
  rw [eqFields_cons 9999 _ _ f3 _ _ _ (.int .i64 x.queue) (.int .i64 y.queue) (x.queue == y.queue) w h3 (run_part_plain w Tryd.intKey rfl) (run_part_plain w Tryd.intKey rfl) (run_equalIn_int w _ _ _ _ _ _ Tryd.underlying3)]
  rw [eqFields_cons 9999 _ _ f4 _ _ _ (.int .i64 x.wait) (.int .i64 y.wait) (x.wait == y.wait) w h4 (run_part_plain w Tryd.intKey rfl) (run_part_plain w Tryd.intKey rfl) (run_equalIn_int w _ _ _ _ _ _ Tryd.underlying3)]
  rw [eqFields_cons 9999 _ _ f5 _ _ _ (.int .i64 x.idle) (.int .i64 y.idle) (x.idle == y.idle) w h5 (run_part_plain w Tryd.intKey rfl) (run_part_plain w Tryd.intKey rfl) (run_equalIn_int w _ _ _ _ _ _ Tryd.underlying3)]
  unfold dbEqB
  generalize (x.name.toList == y.name.toList) = b1
  generalize (x.size == y.size) = b2
  generalize (x.queue == y.queue) = b3
  generalize (x.wait == y.wait) = b4
  generalize (x.idle == y.idle) = b5
  cases b1 <;> cases b2 <;> cases b3 <;> cases b4 <;> cases b5 <;> simp [Op.eqFields, Sem.run_pure]

theorem db_ne (x y : Db) (w : World) : (binOp .neq 79 (.agg (dbC x).toArray) (.agg (dbC y).toArray)).run Tryd.prog w = .ok (.bool (!(dbEqB x y))) w := by
  rw [run_neq_struct, db_equal]
  rfl
theorem db_guard (op : BinOp) (a b : Operand) (x y : Db) (w : World) : (eqGuard op 79 a b (.agg (dbC x).toArray) (.agg (dbC y).toArray)).run Tryd.prog w = .ok () w := run_eqGuard_agg w op _ a b _ _ Tryd.dbGuard

end Go.Proofs.YtlnmlfpkpplgoaaDoor
