/- What the theorem needs, out of many texts. -/
import Derived.Test.YtaigdioimldknaaFar1
import Derived.Lib.AppendStr
import Derived.Laws.StructEq
import Derived.ChangeKeysEq
import Derived.Deep.Slices
import Derived.ChangeArms
import Derived.ChangeOld
import Derived.WideShapes
import Derived.Handy
import Derived.OrdersHeld
import Derived.Deep.RegionHeld3
import Derived.Tactics
namespace Go.Proofs.Ytaigdioimldknaa
open Go.RowKit
/-- The encoding of a text behind other bytes. -/
def ptB (l : List UInt8) (s : List UInt8) : List UInt8 := if okB s then l ++ (u8 s.length :: s) else l
theorem okB_len {l : List UInt8} (h : okB l = true) : l.length ≤ 100 := by
  unfold okB at h
  rw [Bool.and_eq_true] at h
  exact of_decide_eq_true h.1
theorem ptB_len (l s : List UInt8) : (ptB l s).length ≤ l.length + 101 := by
  unfold ptB
  by_cases h : okB s = true
  · have := okB_len h
    rw [if_pos h]; simp; omega
  · rw [if_neg h]; omega
theorem one_byte (n : Nat) (h : n < 256) : [Value.int .u8 (n : Int)] = bys [u8 n] := by
  simp only [bys, List.map_cons, List.map_nil, u8_cell]
  rw [Int.emod_eq_of_lt (by omega) (by omega)]
/-- What '[]byte(s)' lays reads as the bytes of s. -/
theorem reads_str (w : World) (s : ByteArray) (e : TypeId) (cap : Nat) (f : Nat × Nat) :
    Reads (w.drew.alloc (.cells (bytesRow s cap) e f)) (w.drew.alloc (.cells (bytesRow s cap) e f)).heap.size 1 (some ⟨w.heap.size, 0, none⟩) s.data.toList.length (bys s.data.toList) := by
  refine ⟨by simp [bys], fun _ => ⟨_, rfl, by simp, fun j u hu => ?_⟩⟩
  have hadd : (⟨w.heap.size, 0, none⟩ : Addr).add j = ⟨w.heap.size, j, none⟩ := by unfold Addr.add; split <;> simp_all
  rw [hadd, cell_of_row _ w.heap.size j (bytesRow s cap) e f (heap_alloc_new w.drew _)]
  have hj : j < s.data.size := by
    rcases Nat.lt_or_ge j s.data.size with h | h
    · exact h
    · rw [List.getElem?_eq_none (by simpa [bys] using h)] at hu; cases hu
  simp only [bytesRow]
  simp only [bys, List.getElem?_map] at hu
  rw [← hu]
  have hjs : j < s.size := hj
  simp [Array.getElem?_append, hjs]
set_option maxHeartbeats 400000 in
theorem putText_any (A : Option Addr) (c : Nat) (s : ByteArray) (l : List UInt8) (w : World) (h : Reads w w.heap.size 1 A l.length (bys l)) (hn : l.length ≤ 100000000) (hs : s.size ≤ 100000000) :
    Calls Try.prog 88 #[.slice A l.length c, .string s] w fun e w' => ∃ v, e = .returned v ∧ Owns w' w.heap.size 5 v (ptB l s.data.toList) ∧ Below w.heap.size w w' := by
  by_cases hok : okB s.data.toList = true
  · have hsz : s.size ≤ 100 := by simpa using okB_len hok
    have HP := Lib.hid (show ptB l s.data.toList = l ++ (u8 s.size :: s.data.toList) by unfold ptB; rw [if_pos hok]; simp)
    have hcv := fun w => run_bytes_of_string (P := Try.prog) w 9 22 5 s Try.underlying9 Try.underlying22 Try.underlying5
    go_enter Try.func88, Try.ntmps88
    go_wp2_with fail
    refine (textOk_any s w (by omega)).mono ?_
    rintro e w1 ⟨rfl, rfl⟩
    go_wp2_with fail
    have hnew := reads_new w #[.int .u8 (s.size : Int)] 1 5 rfl (by simp [maxLen])
    rw [show (#[Value.int .u8 (s.size : Int)] : Array Value).toList = bys [u8 s.size] from one_byte s.size (by omega)] at hnew
    refine (joined_any A _ c 1 l [u8 s.size] _ ((h.alloc (Nat.le_refl _) _).more (by simp)) hnew (by omega) (by simp)).mono ?_
    clear hnew
    rintro e w1 ⟨v1, rfl, hown1, hb1⟩
    have hW1 : Below w.heap.size w w1 := ((Below.refl _ _).alloc (Nat.le_refl _) _).trans (hb1.mono (by simp))
    replace hown1 := ownsRow_mono hown1 (show w.heap.size ≤ _ by simp)
    obtain ⟨L1, hL1, hL1n⟩ : ∃ L1, l ++ [u8 s.size] = L1 ∧ L1.length ≤ 200000000 := ⟨_, rfl, by simp; omega⟩
    rw [hL1] at hown1
    have HL1 := Lib.hid hL1
    clear hL1
    obtain ⟨A1, c1, rfl, _, _, hr1, _⟩ := Owns.shape hown1
    clear hb1 hown1
    go_wp2_with fail
    have hrs := reads_str w1 s 5 (grownCap w1 s.size 0 5) ((bytesRow s (grownCap w1 s.size 0 5)).size, (bytesRow s (grownCap w1 s.size 0 5)).size + 1)
    have J := joined_any A1 _ c1 (grownCap w1 s.size 0 5) L1 s.data.toList _ ((hr1.drew.alloc (Nat.le_refl _) _).more (by simp)) hrs (by omega) (by simp; omega)
    rw [show s.data.toList.length = s.size by simp] at J
    refine J.mono ?_
    clear J hrs hr1
    rintro e w2 ⟨v2, rfl, hown2, hb2⟩
    have hW2 : Below w.heap.size w w2 := (hW1.drew.alloc hW1.size _).trans (hb2.mono (Nat.le_trans hW1.size (by simp)))
    replace hown2 := ownsRow_mono hown2 (show w.heap.size ≤ _ from Nat.le_trans hW1.size (by simp))
    go_wp2_with fail
    go_ret
    refine ⟨v2, rfl, ?_, hW2⟩
    rw [HP.out]
    rw [← HL1.out] at hown2
    simpa [Owns] using hown2
  · have hokf : okB s.data.toList = false := by simpa using hok
    have HP := Lib.hid (show ptB l s.data.toList = l ++ [] by unfold ptB; rw [if_neg hok]; simp)
    clear hok
    go_enter Try.func88, Try.ntmps88
    go_wp2_with fail
    refine (textOk_any s w (by omega)).mono ?_
    rintro e w1 ⟨rfl, rfl⟩
    go_wp2_with fail
    refine (joined_any A none c 0 l [] w h Reads.none_ (by omega) (by simp)).mono ?_
    rintro e w1 ⟨v, rfl, hown, hb⟩
    go_wp2_with fail
    go_ret
    exact ⟨v, rfl, by rw [HP.out]; exact hown, hb⟩
theorem strCells_bys (s : ByteArray) : Lib.strCells s = bys s.data.toList := rfl
set_option maxHeartbeats 1000000 in
theorem putTextS_any (A : Option Addr) (c : Nat) (s : ByteArray) (l : List UInt8) (w : World) (h : Reads w w.heap.size 1 A l.length (bys l)) (hn : l.length ≤ 100000000) (hs : s.size ≤ 100000000) :
    Calls Try.prog 123 #[.slice A l.length c, .string s] w fun e w' => ∃ v, e = .returned v ∧ Owns w' w.heap.size 5 v (ptB l s.data.toList) ∧ Below w.heap.size w w' := by
  obtain ⟨i0, hi0, hz0, hz1, hz2⟩ := info_parts Try.info8
  have hb0 : Below w.heap.size w (w.alloc (.cells #[] 5)) := (Below.refl _ _).alloc (Nat.le_refl _) _
  have hown0 : (w.alloc (.cells #[] 5)).ownsRow w.heap.size 5 1 (.slice (some ⟨w.heap.size, 0, none⟩) 0 0) 0 [] := World.ownsRow_lit w #[] 0 (Nat.le_refl _) (by simp) rfl
  by_cases hok : okB s.data.toList = true
  · have hsz : s.size ≤ 100 := by simpa using okB_len hok
    have HP := Lib.hid (show ptB l s.data.toList = l ++ (u8 s.size :: s.data.toList) by unfold ptB; rw [if_pos hok]; simp)
    go_enter Try.func123, Try.ntmps123
    go_wp2_with (first
     | (at_builtin
        refine wpList_append_any _ rfl (.tmp 6) (.tmp 7) _ rfl w.heap.size 5 i0 _ 1 1 Try.underlying22 hi0 hz0 hz1 hz2 rfl (by omega) _ 0 [] rfl hown0 w.heap.size A l.length c (bys l) rfl (h.below hb0) (bys_one l) (by simp only [maxLen]; omega) (by omega) hb0.size ?_
        intro v2 w2 hown2 hg2 hat2
        have hb2 : Below w.heap.size w w2 := hb0.grown hg2 hb0.size (fun k hk => (hown0.lt k hk).1)
        clear hown0 hg2 hat2)
     | fail)
    refine (textOkS_any s w2 (by omega)).mono ?_
    rintro e w3 ⟨rfl, rfl⟩
    go_wp2_with (first
     | (at_builtin
        have hnew := reads_new w2 #[.int .u8 (s.size : Int)] 1 5 rfl (by simp [maxLen])
        refine wpList_append_any _ rfl (.tmp 13) (.tmp 17) _ rfl w.heap.size 5 i0 _ 1 1 Try.underlying22 hi0 hz0 hz1 hz2 rfl (by omega) v2 (0 + l.length) ([] ++ bys l) rfl (hown2.alloc _) _ _ 1 _ _ rfl hnew (by simp; rfl) (by simp only [maxLen]; omega) (by omega) (Nat.le_trans hb2.size (by simp)) ?_
        clear hnew
        intro v3 w3 hown3 hg3 hat3
        have hb3 : Below w.heap.size w w3 := (hb2.alloc hb2.size _).grown hg3 (Nat.le_trans hb2.size (by simp)) (fun k hk => (hown2.lt k hk).1)
        clear hg3 hat3)
     | (at_builtin
        refine Lib.wpList_append_own_string _ rfl (.tmp 18) (.tmp 19) _ _ rfl w.heap.size 5 i0 Try.underlying22 Try.underlying9 hi0 hz0 hz1 hz2 v3 _ _ rfl hown3 s rfl (by simp only [maxLen]; omega) (by omega) hb3.size ?_
        intro v4 w4 hown4 hg4 _))
    go_ret
    refine ⟨v4, rfl, ?_, hb3.grown hg4 hb3.size (fun k hk => (hown3.lt k hk).1)⟩
    rw [HP.out]
    have e1 : [Value.int .u8 (s.size : Int)] = bys [u8 s.size] := one_byte s.size (by omega)
    rw [e1, strCells_bys] at hown4
    unfold Owns
    rw [show bys (l ++ (u8 s.size :: s.data.toList)) = [] ++ bys l ++ bys [u8 s.size] ++ bys s.data.toList by simp [bys]]
    rw [show (l ++ (u8 s.size :: s.data.toList)).length = 0 + l.length + 1 + s.size by simp; omega]
    exact hown4
  · have hokf : okB s.data.toList = false := by simpa using hok
    have HP := Lib.hid (show ptB l s.data.toList = l by unfold ptB; rw [if_neg hok])
    clear hok
    go_enter Try.func123, Try.ntmps123
    go_wp2_with (first
     | (at_builtin
        refine wpList_append_any _ rfl (.tmp 6) (.tmp 7) _ rfl w.heap.size 5 i0 _ 1 1 Try.underlying22 hi0 hz0 hz1 hz2 rfl (by omega) _ 0 [] rfl hown0 w.heap.size A l.length c (bys l) rfl (h.below hb0) (bys_one l) (by simp only [maxLen]; omega) (by omega) hb0.size ?_
        intro v2 w2 hown2 hg2 hat2
        have hb2 : Below w.heap.size w w2 := hb0.grown hg2 hb0.size (fun k hk => (hown0.lt k hk).1)
        clear hown0 hg2 hat2)
     | fail)
    refine (textOkS_any s w2 (by omega)).mono ?_
    rintro e w3 ⟨rfl, rfl⟩
    go_wp2_with fail
    go_ret
    exact ⟨v2, rfl, by rw [HP.out]; simpa [Owns] using hown2, hb2⟩
end Go.Proofs.Ytaigdioimldknaa
namespace Go.Proofs.Ytaigdioimldknaa
open Go.RowKit
set_option linter.unusedVariables false
theorem list_bytes {a b : ByteArray} (h : (a.toList == b.toList) = true) : a = b := by
  have h1 : a.toList = b.toList := by simpa using h
  obtain ⟨⟨l⟩⟩ := a
  obtain ⟨⟨m⟩⟩ := b
  rw [ByteArray.toList_mk, ByteArray.toList_mk] at h1
  rw [h1]
theorem eqFields_cons {P : Program} (d : Nat) (xs ys : Array Value) (f : Field) (fs : List Field) (t o : Nat) (a b : Value) (r : Bool) (w : World) (hf : (f.type, f.offset, decide (f.name = "_")) = (t, o, false))
    (ha : (part t xs o).run P w = .ok a w) (hb : (part t ys o).run P w = .ok b w) (hr : (Op.equalIn d t a b).run P w = .ok r w) :
    (Op.eqFields d xs ys (f :: fs)).run P w = if r = true then (Op.eqFields d xs ys fs).run P w else .ok false w := by
  simp only [Prod.mk.injEq] at hf
  obtain ⟨rfl, rfl, h3⟩ := hf
  have h4 : f.name ≠ "_" := of_decide_eq_false h3
  simp only [Op.eqFields, if_pos h4, Sem.run_bind, ha, hb, hr, Result.andThen_ok]
  cases r
  · simp [Sem.run_pure]
  · simp
theorem Try.strKey : Try.prog.plainKey 9 = true := by kernel_rfl
theorem Try.intKey : Try.prog.plainKey 3 = true := by kernel_rfl
end Go.Proofs.Ytaigdioimldknaa
namespace Go.Proofs.Ytaigdioimldknaa
open Go.RowKit
set_option maxRecDepth 100000
set_option linter.unusedVariables false
structure Fr where
  k : Int
  s : ByteArray
  st : Int
def frC (r : Fr) : List Value := [.int .i64 r.k, .string r.s, .int .i64 r.st]
theorem fr_box {w : World} {g t : Nat} {r : Fr} (h : w.heap[g]? = some (.cells (frC r).toArray t (0, 0))) : w.cell? ⟨g, 0, none⟩ = some (.int .i64 r.k) ∧ w.cell? ⟨g, 1, none⟩ = some (.string r.s) ∧ w.cell? ⟨g, 2, none⟩ = some (.int .i64 r.st) := ⟨var_cell h 0, var_cell h 1, var_cell h 2⟩
def frEqB (x y : Fr) : Bool := ((x.k == y.k) && ((x.s.toList == y.s.toList) && (x.st == y.st)))
theorem Try.frStruct : Try.prog.underlying 33 = some (.struct (Try.prog.fieldsOf 33)) := by kernel_rfl
theorem Try.frStood : Try.prog.stoodInHeld 33 = false := by kernel_rfl
theorem Try.frGuard : Try.prog.eqGuardType Try.prog.depth 33 = false := by kernel_rfl
theorem Try.frFields : ((Try.prog.fieldsOf 33).toList.map fun f => (f.type, f.offset, decide (f.name = "_"))) = [(3, 0, false), (9, 1, false), (3, 2, false)] := by kernel_rfl
theorem fr_parts {α : Type} {g : Field → α} {fs : List Field} {a0 a1 a2 : α} (h : fs.map g = [a0, a1, a2]) : ∃ f0 f1 f2, fs = [f0, f1, f2] ∧ g f0 = a0 ∧ g f1 = a1 ∧ g f2 = a2 := by
  match fs, h with
  | [f0, f1, f2], h =>
    simp only [List.map_cons, List.map_nil, List.cons.injEq, and_true] at h
    exact ⟨f0, f1, f2, rfl, h⟩
theorem fr_equal (x y : Fr) (w : World) : (Op.equalIn 10000 33 (.agg (frC x).toArray) (.agg (frC y).toArray)).run Try.prog w = .ok (frEqB x y) w := by
  rw [run_equalIn_struct w 9999 _ _ _ Try.frStruct Try.frStood]
  obtain ⟨f0, f1, f2, hfs, h0, h1, h2⟩ := fr_parts Try.frFields
  rw [hfs]
  rw [eqFields_cons 9999 _ _ f0 _ _ _ (.int .i64 x.k) (.int .i64 y.k) (x.k == y.k) w h0 (run_part_plain w Try.intKey rfl) (run_part_plain w Try.intKey rfl) (run_equalIn_int w _ _ _ _ _ _ Try.underlying3)]
  rw [eqFields_cons 9999 _ _ f1 _ _ _ (.string x.s) (.string y.s) (x.s.toList == y.s.toList) w h1 (run_part_plain w Try.strKey rfl) (run_part_plain w Try.strKey rfl) (run_equalIn_string w _ _ _ _ Try.underlying9)]
  rw [eqFields_cons 9999 _ _ f2 _ _ _ (.int .i64 x.st) (.int .i64 y.st) (x.st == y.st) w h2 (run_part_plain w Try.intKey rfl) (run_part_plain w Try.intKey rfl) (run_equalIn_int w _ _ _ _ _ _ Try.underlying3)]
  unfold frEqB
  generalize (x.k == y.k) = b0
  generalize (x.s.toList == y.s.toList) = b1
  generalize (x.st == y.st) = b2
  cases b0 <;> cases b1 <;> cases b2 <;> simp [Op.eqFields, Sem.run_pure]
theorem fr_guard (op : BinOp) (a b : Operand) (x y : Fr) (w : World) : (eqGuard op 33 a b (.agg (frC x).toArray) (.agg (frC y).toArray)).run Try.prog w = .ok () w := run_eqGuard_agg w op _ a b _ _ Try.frGuard
def zeroFr : Fr := ⟨0, ⟨#[]⟩, 0⟩
def frB (f : Fr) : Bool :=
  if f.k = 1 then nameB f.s.data.toList && (f.st == 0)
  else if f.k = 2 ∨ f.k = 4 ∨ f.k = 6 then okB f.s.data.toList && (f.st == 0)
  else if f.k = 5 then (f.s.data.toList == []) && inI f.st 0 2
  else if f.k = 3 then (f.s.data.toList == []) && (f.st == 0)
  else false
/-- The bytes of a frame. -/
def putF (f : Fr) : List UInt8 :=
  if frB f = false then []
  else if f.k = 5 then [u8 f.k] ++ [u8 f.st]
  else if f.k = 3 then [u8 f.k]
  else ptB [u8 f.k] f.s.data.toList
theorem putF_no {f : Fr} (h : frB f = false) : putF f = [] := if_pos h
theorem putF_5 {f : Fr} (h : frB f = true) (hk : f.k = 5) : putF f = [u8 f.k] ++ [u8 f.st] := by
  unfold putF
  rw [if_neg (by rw [h]; decide), if_pos hk]
theorem putF_3 {f : Fr} (h : frB f = true) (hk : f.k = 3) : putF f = [u8 f.k] := by
  unfold putF
  rw [if_neg (by rw [h]; decide), if_neg (by omega), if_pos hk]
theorem putF_t {f : Fr} (h : frB f = true) (hk : f.k ≠ 5) (hk3 : f.k ≠ 3) : putF f = ptB [u8 f.k] f.s.data.toList := by
  unfold putF
  rw [if_neg (by rw [h]; decide), if_neg hk, if_neg hk3]
theorem putF_len (f : Fr) : (putF f).length ≤ 102 := by
  unfold putF
  split
  · simp
  · split
    · simp
    · split
      · simp
      · exact ptB_len _ _
theorem empty_iff (s : ByteArray) : (s.data.toList == []) = true ↔ s = ⟨#[]⟩ := by
  obtain ⟨⟨l⟩⟩ := s
  cases l <;> simp
theorem frB_1 (s : ByteArray) (st : Int) : frB ⟨1, s, st⟩ = (nameB s.data.toList && (st == 0)) := rfl
theorem frB_2 (s : ByteArray) (st : Int) : frB ⟨2, s, st⟩ = (okB s.data.toList && (st == 0)) := rfl
theorem frB_3 (s : ByteArray) (st : Int) : frB ⟨3, s, st⟩ = ((s.data.toList == []) && (st == 0)) := rfl
theorem frB_4 (s : ByteArray) (st : Int) : frB ⟨4, s, st⟩ = (okB s.data.toList && (st == 0)) := rfl
theorem frB_5 (s : ByteArray) (st : Int) : frB ⟨5, s, st⟩ = ((s.data.toList == []) && inI st 0 2) := rfl
theorem frB_6 (s : ByteArray) (st : Int) : frB ⟨6, s, st⟩ = (okB s.data.toList && (st == 0)) := rfl
theorem frB_no {f : Fr} (h : f.k < 1 ∨ 6 < f.k) : frB f = false := by
  unfold frB
  rw [if_neg (by omega), if_neg (by omega), if_neg (by omega), if_neg (by omega)]
/-- The six kinds, and every other. -/
theorem kinds (k : Int) : k = 1 ∨ k = 2 ∨ k = 3 ∨ k = 4 ∨ k = 5 ∨ k = 6 ∨ (k < 1 ∨ 6 < k) := by omega
theorem Try.as_1_1 (v : Value) (W : World) : (Instr.typeAssert (.iface 176 v) 118 176 true).run Try.prog W = .ok (.tuple #[v, .bool true]) W := by kernel_rfl
theorem Try.as_1_2 (v : Value) (W : World) : (Instr.typeAssert (.iface 176 v) 118 177 true).run Try.prog W = .ok (.tuple #[.string ⟨#[]⟩, .bool false]) W := by kernel_rfl
theorem Try.as_1_3 (v : Value) (W : World) : (Instr.typeAssert (.iface 176 v) 118 122 true).run Try.prog W = .ok (.tuple #[.agg #[], .bool false]) W := by kernel_rfl
theorem Try.as_1_4 (v : Value) (W : World) : (Instr.typeAssert (.iface 176 v) 118 178 true).run Try.prog W = .ok (.tuple #[.string ⟨#[]⟩, .bool false]) W := by kernel_rfl
theorem Try.as_1_5 (v : Value) (W : World) : (Instr.typeAssert (.iface 176 v) 118 123 true).run Try.prog W = .ok (.tuple #[.int .i64 0, .bool false]) W := by kernel_rfl
theorem Try.as_1_6 (v : Value) (W : World) : (Instr.typeAssert (.iface 176 v) 118 179 true).run Try.prog W = .ok (.tuple #[.string ⟨#[]⟩, .bool false]) W := by kernel_rfl
theorem Try.as_2_1 (v : Value) (W : World) : (Instr.typeAssert (.iface 177 v) 118 176 true).run Try.prog W = .ok (.tuple #[.string ⟨#[]⟩, .bool false]) W := by kernel_rfl
theorem Try.as_2_2 (v : Value) (W : World) : (Instr.typeAssert (.iface 177 v) 118 177 true).run Try.prog W = .ok (.tuple #[v, .bool true]) W := by kernel_rfl
theorem Try.as_2_3 (v : Value) (W : World) : (Instr.typeAssert (.iface 177 v) 118 122 true).run Try.prog W = .ok (.tuple #[.agg #[], .bool false]) W := by kernel_rfl
theorem Try.as_2_4 (v : Value) (W : World) : (Instr.typeAssert (.iface 177 v) 118 178 true).run Try.prog W = .ok (.tuple #[.string ⟨#[]⟩, .bool false]) W := by kernel_rfl
theorem Try.as_2_5 (v : Value) (W : World) : (Instr.typeAssert (.iface 177 v) 118 123 true).run Try.prog W = .ok (.tuple #[.int .i64 0, .bool false]) W := by kernel_rfl
theorem Try.as_2_6 (v : Value) (W : World) : (Instr.typeAssert (.iface 177 v) 118 179 true).run Try.prog W = .ok (.tuple #[.string ⟨#[]⟩, .bool false]) W := by kernel_rfl
theorem Try.as_3_1 (v : Value) (W : World) : (Instr.typeAssert (.iface 122 v) 118 176 true).run Try.prog W = .ok (.tuple #[.string ⟨#[]⟩, .bool false]) W := by kernel_rfl
theorem Try.as_3_2 (v : Value) (W : World) : (Instr.typeAssert (.iface 122 v) 118 177 true).run Try.prog W = .ok (.tuple #[.string ⟨#[]⟩, .bool false]) W := by kernel_rfl
theorem Try.as_3_3 (v : Value) (W : World) : (Instr.typeAssert (.iface 122 v) 118 122 true).run Try.prog W = .ok (.tuple #[v, .bool true]) W := by kernel_rfl
theorem Try.as_3_4 (v : Value) (W : World) : (Instr.typeAssert (.iface 122 v) 118 178 true).run Try.prog W = .ok (.tuple #[.string ⟨#[]⟩, .bool false]) W := by kernel_rfl
theorem Try.as_3_5 (v : Value) (W : World) : (Instr.typeAssert (.iface 122 v) 118 123 true).run Try.prog W = .ok (.tuple #[.int .i64 0, .bool false]) W := by kernel_rfl
theorem Try.as_3_6 (v : Value) (W : World) : (Instr.typeAssert (.iface 122 v) 118 179 true).run Try.prog W = .ok (.tuple #[.string ⟨#[]⟩, .bool false]) W := by kernel_rfl
theorem Try.as_4_1 (v : Value) (W : World) : (Instr.typeAssert (.iface 178 v) 118 176 true).run Try.prog W = .ok (.tuple #[.string ⟨#[]⟩, .bool false]) W := by kernel_rfl
theorem Try.as_4_2 (v : Value) (W : World) : (Instr.typeAssert (.iface 178 v) 118 177 true).run Try.prog W = .ok (.tuple #[.string ⟨#[]⟩, .bool false]) W := by kernel_rfl
theorem Try.as_4_3 (v : Value) (W : World) : (Instr.typeAssert (.iface 178 v) 118 122 true).run Try.prog W = .ok (.tuple #[.agg #[], .bool false]) W := by kernel_rfl
theorem Try.as_4_4 (v : Value) (W : World) : (Instr.typeAssert (.iface 178 v) 118 178 true).run Try.prog W = .ok (.tuple #[v, .bool true]) W := by kernel_rfl
theorem Try.as_4_5 (v : Value) (W : World) : (Instr.typeAssert (.iface 178 v) 118 123 true).run Try.prog W = .ok (.tuple #[.int .i64 0, .bool false]) W := by kernel_rfl
theorem Try.as_4_6 (v : Value) (W : World) : (Instr.typeAssert (.iface 178 v) 118 179 true).run Try.prog W = .ok (.tuple #[.string ⟨#[]⟩, .bool false]) W := by kernel_rfl
theorem Try.as_5_1 (v : Value) (W : World) : (Instr.typeAssert (.iface 123 v) 118 176 true).run Try.prog W = .ok (.tuple #[.string ⟨#[]⟩, .bool false]) W := by kernel_rfl
theorem Try.as_5_2 (v : Value) (W : World) : (Instr.typeAssert (.iface 123 v) 118 177 true).run Try.prog W = .ok (.tuple #[.string ⟨#[]⟩, .bool false]) W := by kernel_rfl
theorem Try.as_5_3 (v : Value) (W : World) : (Instr.typeAssert (.iface 123 v) 118 122 true).run Try.prog W = .ok (.tuple #[.agg #[], .bool false]) W := by kernel_rfl
theorem Try.as_5_4 (v : Value) (W : World) : (Instr.typeAssert (.iface 123 v) 118 178 true).run Try.prog W = .ok (.tuple #[.string ⟨#[]⟩, .bool false]) W := by kernel_rfl
theorem Try.as_5_5 (v : Value) (W : World) : (Instr.typeAssert (.iface 123 v) 118 123 true).run Try.prog W = .ok (.tuple #[v, .bool true]) W := by kernel_rfl
theorem Try.as_5_6 (v : Value) (W : World) : (Instr.typeAssert (.iface 123 v) 118 179 true).run Try.prog W = .ok (.tuple #[.string ⟨#[]⟩, .bool false]) W := by kernel_rfl
theorem Try.as_6_1 (v : Value) (W : World) : (Instr.typeAssert (.iface 179 v) 118 176 true).run Try.prog W = .ok (.tuple #[.string ⟨#[]⟩, .bool false]) W := by kernel_rfl
theorem Try.as_6_2 (v : Value) (W : World) : (Instr.typeAssert (.iface 179 v) 118 177 true).run Try.prog W = .ok (.tuple #[.string ⟨#[]⟩, .bool false]) W := by kernel_rfl
theorem Try.as_6_3 (v : Value) (W : World) : (Instr.typeAssert (.iface 179 v) 118 122 true).run Try.prog W = .ok (.tuple #[.agg #[], .bool false]) W := by kernel_rfl
theorem Try.as_6_4 (v : Value) (W : World) : (Instr.typeAssert (.iface 179 v) 118 178 true).run Try.prog W = .ok (.tuple #[.string ⟨#[]⟩, .bool false]) W := by kernel_rfl
theorem Try.as_6_5 (v : Value) (W : World) : (Instr.typeAssert (.iface 179 v) 118 123 true).run Try.prog W = .ok (.tuple #[.int .i64 0, .bool false]) W := by kernel_rfl
theorem Try.as_6_6 (v : Value) (W : World) : (Instr.typeAssert (.iface 179 v) 118 179 true).run Try.prog W = .ok (.tuple #[v, .bool true]) W := by kernel_rfl
theorem Try.as_0_1 (W : World) : (Instr.typeAssert .nilIface 118 176 true).run Try.prog W = .ok (.tuple #[.string ⟨#[]⟩, .bool false]) W := by kernel_rfl
theorem Try.as_0_2 (W : World) : (Instr.typeAssert .nilIface 118 177 true).run Try.prog W = .ok (.tuple #[.string ⟨#[]⟩, .bool false]) W := by kernel_rfl
theorem Try.as_0_3 (W : World) : (Instr.typeAssert .nilIface 118 122 true).run Try.prog W = .ok (.tuple #[.agg #[], .bool false]) W := by kernel_rfl
theorem Try.as_0_4 (W : World) : (Instr.typeAssert .nilIface 118 178 true).run Try.prog W = .ok (.tuple #[.string ⟨#[]⟩, .bool false]) W := by kernel_rfl
theorem Try.as_0_5 (W : World) : (Instr.typeAssert .nilIface 118 123 true).run Try.prog W = .ok (.tuple #[.int .i64 0, .bool false]) W := by kernel_rfl
theorem Try.as_0_6 (W : World) : (Instr.typeAssert .nilIface 118 179 true).run Try.prog W = .ok (.tuple #[.string ⟨#[]⟩, .bool false]) W := by kernel_rfl
def msgV (f : Fr) : Value :=
  if f.k = 1 then .iface 176 (.string f.s)
  else if f.k = 2 then .iface 177 (.string f.s)
  else if f.k = 3 then .iface 122 (.agg #[])
  else if f.k = 4 then .iface 178 (.string f.s)
  else if f.k = 5 then .iface 123 (.int .i64 f.st)
  else if f.k = 6 then .iface 179 (.string f.s)
  else .nilIface
def isK (f : Fr) : Bool := decide (1 ≤ f.k ∧ f.k ≤ 6)
set_option maxHeartbeats 4000000 in
theorem messageOf_any (f : Fr) (w : World) : Calls Try.prog 130 #[.agg (frC f).toArray] w fun e w' => e = .returned (.tuple #[msgV f, .bool (isK f)]) ∧ Below w.heap.size w w' := by
  obtain ⟨k, s, st⟩ := f
  unfold frC
  rcases kinds k with rfl | rfl | rfl | rfl | rfl | rfl | h
  · go_enter Try.func130, Try.ntmps130
    go_wp2
    go_ret2
    exact ⟨rfl, Later.alloc w _⟩
  · go_enter Try.func130, Try.ntmps130
    go_wp2
    go_ret2
    exact ⟨rfl, Later.alloc w _⟩
  · go_enter Try.func130, Try.ntmps130
    go_wp2
    go_ret2
    exact ⟨rfl, Later.alloc w _⟩
  · go_enter Try.func130, Try.ntmps130
    go_wp2
    go_ret2
    exact ⟨rfl, Later.alloc w _⟩
  · go_enter Try.func130, Try.ntmps130
    go_wp2
    go_ret2
    exact ⟨rfl, Later.alloc w _⟩
  · go_enter Try.func130, Try.ntmps130
    go_wp2
    go_ret2
    exact ⟨rfl, Later.alloc w _⟩
  · have hm : msgV ⟨k, s, st⟩ = .nilIface := by unfold msgV; rw [if_neg (by simp; omega), if_neg (by simp; omega), if_neg (by simp; omega), if_neg (by simp; omega), if_neg (by simp; omega), if_neg (by simp; omega)]
    have hb : isK ⟨k, s, st⟩ = false := by unfold isK; simp; omega
    rw [hm, hb]
    have t1 : (k == 1) = false := by simp; omega
    have t2 : (k == 2) = false := by simp; omega
    have t3 : (k == 3) = false := by simp; omega
    have t4 : (k == 4) = false := by simp; omega
    have t5 : (k == 5) = false := by simp; omega
    have t6 : (k == 6) = false := by simp; omega
    clear hm hb h
    go_enter Try.func130, Try.ntmps130
    go_wp2
    go_ret2
    exact ⟨rfl, Later.alloc w _⟩
def outF (f : Fr) : Fr := if f.k = 5 then ⟨5, ⟨#[]⟩, f.st⟩ else if f.k = 3 then ⟨3, ⟨#[]⟩, 0⟩ else if 1 ≤ f.k ∧ f.k ≤ 6 then ⟨f.k, f.s, 0⟩ else zeroFr
set_option maxHeartbeats 4000000 in
theorem frameOf_any (f : Fr) (w : World) : Calls Try.prog 131 #[msgV f] w fun e w' => e = .returned (.agg (frC (outF f)).toArray) ∧ Below w.heap.size w w' := by
  obtain ⟨k, s, st⟩ := f
  rcases kinds k with rfl | rfl | rfl | rfl | rfl | rfl | h
  · show Calls Try.prog 131 #[.iface 176 (.string s)] w _
    have a1 := Try.as_1_1 (.string s)
    have a2 := Try.as_1_2 (.string s)
    have a3 := Try.as_1_3 (.string s)
    have a4 := Try.as_1_4 (.string s)
    have a5 := Try.as_1_5 (.string s)
    have a6 := Try.as_1_6 (.string s)
    go_enter Try.func131, Try.ntmps131
    go_wp2_with fail
    go_returns
    exact ⟨rfl, by go_grown⟩
  · show Calls Try.prog 131 #[.iface 177 (.string s)] w _
    have a1 := Try.as_2_1 (.string s)
    have a2 := Try.as_2_2 (.string s)
    have a3 := Try.as_2_3 (.string s)
    have a4 := Try.as_2_4 (.string s)
    have a5 := Try.as_2_5 (.string s)
    have a6 := Try.as_2_6 (.string s)
    go_enter Try.func131, Try.ntmps131
    go_wp2_with fail
    go_returns
    exact ⟨rfl, by go_grown⟩
  · show Calls Try.prog 131 #[.iface 122 (.agg #[])] w _
    have a1 := Try.as_3_1 (.agg #[])
    have a2 := Try.as_3_2 (.agg #[])
    have a3 := Try.as_3_3 (.agg #[])
    have a4 := Try.as_3_4 (.agg #[])
    have a5 := Try.as_3_5 (.agg #[])
    have a6 := Try.as_3_6 (.agg #[])
    go_enter Try.func131, Try.ntmps131
    go_wp2_with fail
    go_returns
    exact ⟨rfl, by go_grown⟩
  · show Calls Try.prog 131 #[.iface 178 (.string s)] w _
    have a1 := Try.as_4_1 (.string s)
    have a2 := Try.as_4_2 (.string s)
    have a3 := Try.as_4_3 (.string s)
    have a4 := Try.as_4_4 (.string s)
    have a5 := Try.as_4_5 (.string s)
    have a6 := Try.as_4_6 (.string s)
    go_enter Try.func131, Try.ntmps131
    go_wp2_with fail
    go_returns
    exact ⟨rfl, by go_grown⟩
  · show Calls Try.prog 131 #[.iface 123 (.int .i64 st)] w _
    have a1 := Try.as_5_1 (.int .i64 st)
    have a2 := Try.as_5_2 (.int .i64 st)
    have a3 := Try.as_5_3 (.int .i64 st)
    have a4 := Try.as_5_4 (.int .i64 st)
    have a5 := Try.as_5_5 (.int .i64 st)
    have a6 := Try.as_5_6 (.int .i64 st)
    go_enter Try.func131, Try.ntmps131
    go_wp2_with fail
    go_returns
    exact ⟨rfl, by go_grown⟩
  · show Calls Try.prog 131 #[.iface 179 (.string s)] w _
    have a1 := Try.as_6_1 (.string s)
    have a2 := Try.as_6_2 (.string s)
    have a3 := Try.as_6_3 (.string s)
    have a4 := Try.as_6_4 (.string s)
    have a5 := Try.as_6_5 (.string s)
    have a6 := Try.as_6_6 (.string s)
    go_enter Try.func131, Try.ntmps131
    go_wp2_with fail
    go_returns
    exact ⟨rfl, by go_grown⟩
  · have hm : msgV ⟨k, s, st⟩ = .nilIface := by unfold msgV; rw [if_neg (by simp; omega), if_neg (by simp; omega), if_neg (by simp; omega), if_neg (by simp; omega), if_neg (by simp; omega), if_neg (by simp; omega)]
    have ho : outF ⟨k, s, st⟩ = zeroFr := by unfold outF; rw [if_neg (by simp; omega), if_neg (by simp; omega), if_neg (by simp; omega)]
    rw [hm, ho]
    clear hm ho h
    have a1 := Try.as_0_1
    have a2 := Try.as_0_2
    have a3 := Try.as_0_3
    have a4 := Try.as_0_4
    have a5 := Try.as_0_5
    have a6 := Try.as_0_6
    go_enter Try.func131, Try.ntmps131
    go_wp2_with fail
    go_returns
    exact ⟨rfl, by go_grown⟩
end Go.Proofs.Ytaigdioimldknaa
namespace Go.Proofs.Ytaigdioimldknaa
set_option linter.unusedVariables false
section
variable {P : Program} {ops : Array Oper} {Q : Exit → Act → World → Prop} {md : Region.Mode} {S : World → Prop} {z : Nat}
def wpAnyL (P : Program) (md : Region.Mode) (ops : Array Oper) (Q : Exit → Act → World → Prop) (S : World → Prop) (z : Nat) : Nat → Array Bool → Act → World → Prop
  | 0, listed, a, w => Region.ready md ops listed = [] ∧ Q .normal a w
  | fuel + 1, listed, a, w =>
    (Region.ready md ops listed = [] → Q .normal a w) ∧
    ∀ i ∈ Region.ready md ops listed, wpOp P ops Q i (fun a' w' => (i ≠ z → S w') ∧ wpAnyL P md ops Q S z fuel (listed.setIfInBounds i true) a' w') a w
theorem wpAny_of_lex : ∀ (fuel : Nat) (listed : Array Bool) (a : Act) (w : World), wpAnyL P md ops Q S z fuel listed a w → wpAny P md ops Q fuel listed a w
  | 0, _, _, _, h => h
  | fuel + 1, _, _, _, h => ⟨h.1, fun i hi => wpOp_mono (fun a' w' h' => wpAny_of_lex fuel _ a' w' h'.2) (h.2 i hi)⟩
theorem wpAnyL_first {i : Nat} {oi : Oper} {v : Value} (hi : ops[i]? = some oi) (hsel : ∀ (j : Nat) (o : Oper) cs b, ops[j]? = some o → o.op ≠ .select cs b)
    (hQ : ∀ c a w, Q (.panic c) (a.put oi.dst v) w → Q (.panic c) a w) (hz : ∀ oz, ops[z]? = some oz → ∃ e ∈ oz.after, Region.binds md e = true ∧ e.on = i) :
    ∀ (fuel : Nat) (listed : Array Bool) (a : Act) (w : World),
      (∀ j oj, ops[j]? = some oj → j ≠ i → listed.getD j true = false → (∀ e ∈ oj.after, Region.binds md e = true → e.on ≠ i) → oi.apart ops oj = true) →
      i ∈ Region.ready md ops listed → YieldsIf P ops S oi v a → S w →
      wpAnyL P md ops Q S z fuel (listed.setIfInBounds i true) (a.put oi.dst v) w → wpAnyL P md ops Q S z (fuel + 1) listed a w := by
  intro fuel
  induction fuel with
  | zero =>
    intro listed a w _ hr hy hS H
    refine ⟨fun h => (by rw [h] at hr; cases hr), fun j hj => ?_⟩
    by_cases hji : j = i
    · subst hji; exact hy.wpOp hi hS ⟨fun _ => hS, H⟩
    · have := ready_mono hj hji
      rw [H.1] at this
      cases this
  | succ fuel ih =>
    intro listed a w hfree hr hy hS H
    refine ⟨fun h => (by rw [h] at hr; cases hr), fun j hj => ?_⟩
    by_cases hji : j = i
    · subst hji; exact hy.wpOp hi hS ⟨fun _ => hS, H⟩
    · have h1 := H.2 j (ready_mono hj hji)
      obtain ⟨hjun, oj, hoj, hall⟩ := mem_ready.1 hj
      have hnot : ∀ e ∈ oj.after, Region.binds md e = true → e.on ≠ i := fun e he hb heq => by
        have h1 := hall e he hb
        have h0 := (mem_ready.1 hr).1
        rw [heq] at h1
        rcases Nat.lt_or_ge i listed.size with h' | h'
        · simp [h'] at h0 h1; rw [h0] at h1; cases h1
        · simp [Array.getElem?_eq_none h'] at h1
      have hjz : j ≠ z := fun e => by
        subst e
        obtain ⟨e, he, hb, hon⟩ := hz oj hoj
        exact hnot e he hb hon
      have h2 := wpOp_putIf hoj (hfree j oj hoj hji hjun hnot) (fun cs b => hsel i oi cs b hi) (fun cs b => hsel j oj cs b hoj) hQ hy h1
      have hfree' : ∀ k ok, ops[k]? = some ok → k ≠ i → (listed.setIfInBounds j true).getD k true = false →
          (∀ e ∈ ok.after, Region.binds md e = true → e.on ≠ i) → oi.apart ops ok = true := fun k ok hk hki hun hno => by
        refine hfree k ok hk hki ?_ hno
        by_cases hjk : j = k
        · subst hjk; exact hjun
        · rw [getD_set_ne true hjk] at hun; exact hun
      refine wpOp_mono (fun a' w' h3 => ⟨fun _ => h3.2.1 hjz, ih (listed.setIfInBounds j true) a' w' hfree' (ready_mono hr (Ne.symm hji)) h3.1 (h3.2.1 hjz) ?_⟩) h2
      rw [Array.setIfInBounds_comm _ _ hji]
      exact h3.2.2
def lexReads (md : Region.Mode) (ops : Array Oper) (z : Nat) : List Nat → Array Bool → Option (Array Bool)
  | [], L => some L
  | i :: r, L => if Region.free md ops L i && (Region.ready md ops L).contains i && ((ops[z]?).map (fun oz => oz.after.any fun e => Region.binds md e && e.on == i)).getD true && ((ops[i]?).map (fun o => o.guard.isNone)).getD false then lexReads md ops z r (L.setIfInBounds i true) else none
def lexWrites (md : Region.Mode) (ops : Array Oper) (z : Nat) : List Nat → Array Bool → Bool
  | [], L => (Region.ready md ops L).isEmpty
  | i :: r, L => (Region.ready md ops L == [i]) && (i != z || r.isEmpty) && lexWrites md ops z r (L.setIfInBounds i true)
def lexCheck (ops : Array Oper) (z : Nat) (rs ws : List Nat) : Bool :=
  Region.noSelect ops && (rs.length + ws.length == ops.size) && match lexReads .any ops z rs (Array.replicate ops.size false) with
    | some L => lexWrites .any ops z ws L
    | none => false
/-- The reads, one after the other: each yields one value in every world that meets S. -/
def LexR (P : Program) (ops : Array Oper) (S : World → Prop) : List Nat → (Act → Prop) → Act → Prop
  | [], K, a => K a
  | i :: r, K, a => ∃ o v, ops[i]? = some o ∧ (∀ w, S w → (execOp a.eval o).run P w = .ok (.value v) w) ∧ LexR P ops S r K (a.put o.dst v)
/-- The writing operations. -/
def LexW (P : Program) (ops : Array Oper) (Q : Exit → Act → World → Prop) (S : World → Prop) (z : Nat) : List Nat → Act → World → Prop
  | [], a, w => Q .normal a w
  | i :: r, a, w => ∃ o, ops[i]? = some o ∧ wpList P ops (Exit.then (fun a' w' => (i ≠ z → S w') ∧ LexW P ops Q S z r a' w') Q) [o] a w
theorem Oper.wp_post {o : Oper} {a : Act} {w : World} {K next : Act → World → Prop} (h : o.wp P a w K (Exit.then next Q)) : o.wp P a w K Q := by
  unfold Oper.wp at *
  generalize (execOp a.eval o).run P w = r at *
  cases r with
  | ok n w' =>
    cases n <;> simp only [Oper.upon] at h ⊢ <;>
      first
        | exact h
        | exact (Calls.mono h (fun e w'' he => by (cases e <;> exact he)))
        | exact (Rows.mono h (fun _ _ he => he))
  | halt x w' => cases x <;> simp only [Oper.upon] at h ⊢ <;> exact h
theorem lexWrites_sound : ∀ (ws : List Nat) (L : Array Bool) (a : Act) (w : World), lexWrites md ops z ws L = true → LexW P ops Q S z ws a w → wpAnyL P md ops Q S z ws.length L a w
  | [], L, a, w, hc, h => by
    simp only [lexWrites, List.isEmpty_iff] at hc
    exact ⟨hc, h⟩
  | i :: r, L, a, w, hc, h => by
    simp only [lexWrites, Bool.and_eq_true, beq_iff_eq] at hc
    obtain ⟨⟨hr, hz⟩, hc⟩ := hc
    obtain ⟨o, ho, h⟩ := h
    refine ⟨(fun h0 => by rw [hr] at h0; cases h0), fun j hj => ?_⟩
    rw [hr] at hj
    obtain rfl : j = i := by simpa using hj
    unfold wpOp
    simp only [ho]
    unfold wpList at h
    split at h
    · rename_i hw
      simp only [hw, if_true]
      rcases h with h | ⟨h1, h2⟩
      · refine .inl (Oper.wp_post (Oper.wp_mono (fun a' w' h3 => ?_) h))
        have h4 : (j ≠ z → S w') ∧ LexW P ops Q S z r a' w' := h3
        exact ⟨h4.1, lexWrites_sound r _ a' w' hc h4.2⟩
      · exact .inr ⟨h1, h2⟩
    · rename_i hw
      simp only [hw]
      have h4 : (j ≠ z → S w) ∧ LexW P ops Q S z r (a.put o.dst undef) w := h
      exact ⟨h4.1, lexWrites_sound r _ _ w hc h4.2⟩
theorem lexReads_sound (hs : Region.noSelect ops = true) (hQ : ∀ c a d v w, Q (.panic c) (Act.put a d v) w → Q (.panic c) a w) : ∀ (rs : List Nat) (L L' : Array Bool) (fuel : Nat) (K : Act → Prop) (a : Act) (w : World), lexReads md ops z rs L = some L' → S w → LexR P ops S rs K a →
    (∀ a', K a' → wpAnyL P md ops Q S z fuel L' a' w) → wpAnyL P md ops Q S z (rs.length + fuel) L a w
  | [], L, L', fuel, K, a, w, hc, hS, h, hk => by
    simp only [lexReads] at hc
    injection hc with hc
    subst hc
    rw [List.length_nil, Nat.zero_add]
    exact hk a h
  | i :: r, L, L', fuel, K, a, w, hc, hS, h, hk => by
    simp only [lexReads] at hc
    split at hc
    · rename_i hb
      simp only [Bool.and_eq_true] at hb
      obtain ⟨⟨⟨hf, hr⟩, hz⟩, hg⟩ := hb
      obtain ⟨o, v, ho, hv, h⟩ := h
      have ih := lexReads_sound hs hQ r _ L' fuel K (a.put o.dst v) w hc hS h hk
      have e : (i :: r).length + fuel = (r.length + fuel) + 1 := by simp only [List.length_cons]; omega
      rw [e]
      have hgd : o.guard = none := by simpa [ho] using hg
      refine wpAnyL_first ho (Region.noSelect_spec hs) (fun c a w => hQ c a o.dst v w) (fun oz hoz => ?_) _ L a w (Region.free_spec ho hf) (by simpa using hr) (.inl ⟨by simp [Region.wanted, hgd], hv⟩) hS ih
      simp only [hoz, Option.map_some, Option.getD_some] at hz
      obtain ⟨e, he, hb⟩ := Array.any_eq_true'.1 hz
      simp only [Bool.and_eq_true, beq_iff_eq] at hb
      exact ⟨e, he, hb.1, hb.2⟩
    · cases hc
/-- THE REGION: the reads 'rs' first, then the writing operations 'ws', the last of them number z. -/
theorem wp_region_lex {id : Nat} {a : Act} {w : World} (z : Nat) (rs ws : List Nat) (S : World → Prop) (hm : P.follows .mixedOrders = true) (hc : lexCheck ops z rs ws = true) (hQ : ∀ c a d v w, Q (.panic c) (Act.put a d v) w → Q (.panic c) a w)
    (hS : S w.drew) (h : LexR P ops S rs (fun a' => LexW P ops Q S z ws a' w.drew) a) : (Code.region id ops true).wp P Q a w := by
  simp only [lexCheck, Bool.and_eq_true, beq_iff_eq] at hc
  obtain ⟨⟨hs, hn⟩, hc⟩ := hc
  split at hc
  · rename_i L hL
    refine wp_region_any hm (wpAny_of_lex (S := S) (z := z) _ _ _ _ ?_)
    rw [← hn]
    rw [← hn] at hL
    exact lexReads_sound hs hQ rs _ L ws.length _ a _ hL hS h fun a' ha => lexWrites_sound ws L a' _ hc ha
  · cases hc
/-- The same where the post of a panic may hang on the frame: the region is shown not to panic. -/
theorem wp_region_lex' {id : Nat} {a : Act} {w : World} (z : Nat) (rs ws : List Nat) (S : World → Prop) (hm : P.follows .mixedOrders = true) (hc : lexCheck ops z rs ws = true)
    (hS : S w.drew) (h : LexR P ops S rs (fun a' => LexW P ops (NoPanic Q) S z ws a' w.drew) a) : (Code.region id ops true).wp P Q a w :=
  wp_region_noPanic (wp_region_lex z rs ws S hm hc (fun _ _ _ _ _ h => h) hS h)
theorem LexR.cons {i : Nat} {r : List Nat} {K : Act → Prop} {a : Act} {o : Oper} (ho : ops.toList[i]? = some o) (v : Value) (hv : ∀ w, S w → (execOp a.eval o).run P w = .ok (.value v) w) (h : LexR P ops S r K (a.put o.dst v)) : LexR P ops S (i :: r) K a := ⟨o, v, by simpa using ho, hv, h⟩
theorem LexR.nil {K : Act → Prop} {a : Act} (h : K a) : LexR P ops S [] K a := h
theorem LexW.nil {a : Act} {w : World} (h : Q .normal a w) : LexW P ops (NoPanic Q) S z [] a w := NoPanic.normal h
theorem LexW.cons {i : Nat} {r : List Nat} {a : Act} {w : World} {o : Oper} (ho : ops.toList[i]? = some o) (h : wpList P ops (Exit.then (fun a' w' => (i ≠ z → S w') ∧ LexW P ops Q S z r a' w') Q) [o] a w) : LexW P ops Q S z (i :: r) a w := ⟨o, by simpa using ho, h⟩
/-- The operations rs are done. -/
def doneL (L : Array Bool) : List Nat → Array Bool
  | [] => L
  | i :: r => doneL (L.setIfInBounds i true) r
/-- The region, its orders still open. -/
theorem wp_region_open {id : Nat} {a : Act} {w : World} (z : Nat) (S : World → Prop) (hm : P.follows .mixedOrders = true) (h : wpAnyL P .any ops (NoPanic Q) S z ops.size (Array.replicate ops.size false) a w.drew) : (Code.region id ops true).wp P Q a w :=
  wp_region_noPanic (wp_region_any hm (wpAny_of_lex (S := S) (z := z) _ _ _ _ h))
theorem wpAnyL_step {i : Nat} {fuel : Nat} {L : Array Bool} {a : Act} {w : World} (h : ∃ o, ops[i]? = some o ∧ wpList P ops (Exit.then (fun a' w' => (i ≠ z → S w') ∧ wpAnyL P md ops Q S z fuel (L.setIfInBounds i true) a' w') Q) [o] a w) :
    wpOp P ops Q i (fun a' w' => (i ≠ z → S w') ∧ wpAnyL P md ops Q S z fuel (L.setIfInBounds i true) a' w') a w := by
  obtain ⟨o, ho, h⟩ := h
  unfold wpOp
  simp only [ho]
  unfold wpList at h
  split at h
  · rename_i hw
    simp only [hw, if_true]
    rcases h with h | ⟨h1, h2⟩
    · exact .inl (Oper.wp_post (Oper.wp_mono (fun a' w' h3 => h3) h))
    · exact .inr ⟨h1, h2⟩
  · rename_i hw
    simp only [hw]
    exact h
/-- One operation is ready. -/
theorem wpAnyL_one {i : Nat} {fuel : Nat} {L : Array Bool} {a : Act} {w : World} (hr : (Region.ready md ops L == [i]) = true)
    (h1 : ∃ o, ops[i]? = some o ∧ wpList P ops (Exit.then (fun a' w' => (i ≠ z → S w') ∧ wpAnyL P md ops Q S z fuel (L.setIfInBounds i true) a' w') Q) [o] a w) : wpAnyL P md ops Q S z (fuel + 1) L a w := by
  rw [beq_iff_eq] at hr
  refine ⟨(fun h0 => by rw [hr] at h0; cases h0), fun k hk => ?_⟩
  rw [hr] at hk
  simp only [List.mem_cons, List.not_mem_nil, or_false] at hk
  subst hk
  exact wpAnyL_step h1
/-- From here on the order is forced. -/
theorem wpAnyL_writes (ws : List Nat) {L : Array Bool} {a : Act} {w : World} (hc : lexWrites md ops z ws L = true) (h : LexW P ops Q S z ws a w) : wpAnyL P md ops Q S z ws.length L a w := lexWrites_sound ws L a w hc h
theorem lexA_get {i : Nat} {o : Oper} {K : Oper → Prop} (ho : ops.toList[i]? = some o) (h : K o) : ∃ o, ops[i]? = some o ∧ K o := ⟨o, by simpa using ho, h⟩
end
section
variable {P : Program} {ops : Array Oper} {Q : Exit → Act → World → Prop} {md : Region.Mode} {S : World → Prop} {z : Nat}
def lexReadsG (md : Region.Mode) (ops : Array Oper) (z : Nat) : List Nat → Array Bool → Option (Array Bool)
  | [], L => some L
  | i :: r, L => if Region.free md ops L i && (Region.ready md ops L).contains i && ((ops[z]?).map (fun oz => oz.after.any fun e => Region.binds md e && e.on == i)).getD true then lexReadsG md ops z r (L.setIfInBounds i true) else none
def LexRG (P : Program) (ops : Array Oper) (S : World → Prop) : List Nat → (Act → Prop) → Act → Prop
  | [], K, a => K a
  | i :: r, K, a => ∃ o v, ops[i]? = some o ∧ YieldsIf P ops S o v a ∧ LexRG P ops S r K (a.put o.dst v)
theorem lexReadsG_sound (hs : Region.noSelect ops = true) (hQ : ∀ c a d v w, Q (.panic c) (Act.put a d v) w → Q (.panic c) a w) : ∀ (rs : List Nat) (L L' : Array Bool) (fuel : Nat) (K : Act → Prop) (a : Act) (w : World), lexReadsG md ops z rs L = some L' → S w → LexRG P ops S rs K a →
    (∀ a', K a' → wpAnyL P md ops Q S z fuel L' a' w) → wpAnyL P md ops Q S z (rs.length + fuel) L a w
  | [], L, L', fuel, K, a, w, hc, hS, h, hk => by
    simp only [lexReadsG] at hc
    injection hc with hc
    subst hc
    rw [List.length_nil, Nat.zero_add]
    exact hk a h
  | i :: r, L, L', fuel, K, a, w, hc, hS, h, hk => by
    simp only [lexReadsG] at hc
    split at hc
    · rename_i hb
      simp only [Bool.and_eq_true] at hb
      obtain ⟨⟨hf, hr⟩, hz⟩ := hb
      obtain ⟨o, v, ho, hv, h⟩ := h
      have ih := lexReadsG_sound hs hQ r _ L' fuel K (a.put o.dst v) w hc hS h hk
      have e : (i :: r).length + fuel = (r.length + fuel) + 1 := by simp only [List.length_cons]; omega
      rw [e]
      refine wpAnyL_first ho (Region.noSelect_spec hs) (fun c a w => hQ c a o.dst v w) (fun oz hoz => ?_) _ L a w (Region.free_spec ho hf) (by simpa using hr) hv hS ih
      simp only [hoz, Option.map_some, Option.getD_some] at hz
      obtain ⟨e, he, hb⟩ := Array.any_eq_true'.1 hz
      simp only [Bool.and_eq_true, beq_iff_eq] at hb
      exact ⟨e, he, hb.1, hb.2⟩
    · cases hc
theorem lexReadsG_done : ∀ (rs : List Nat) (L L' : Array Bool), lexReadsG md ops z rs L = some L' → L' = doneL L rs
  | [], L, L', h => by
    simp only [lexReadsG] at h
    injection h with h
    exact h.symm
  | i :: r, L, L', h => by
    simp only [lexReadsG] at h
    split at h
    · exact lexReadsG_done r _ L' h
    · cases h
/-- The quiet operations rs may be taken first. -/
theorem wpAnyL_readsG (rs : List Nat) {fuel : Nat} {L : Array Bool} {a : Act} {w : World} (hc : (Region.noSelect ops && (lexReadsG .any ops z rs L).isSome) = true) (hS : S w)
    (h : LexRG P ops S rs (fun a' => wpAnyL P .any ops (NoPanic Q) S z fuel (doneL L rs) a' w) a) : wpAnyL P .any ops (NoPanic Q) S z (rs.length + fuel) L a w := by
  simp only [Bool.and_eq_true] at hc
  rcases hL : lexReadsG .any ops z rs L with _ | L'
  · rw [hL] at hc; cases hc.2
  · exact lexReadsG_sound hc.1 (fun _ _ _ _ _ h => h) rs L L' fuel _ a w hL hS h fun a' ha => by rw [lexReadsG_done rs L L' hL]; exact ha
theorem LexRG.nil {K : Act → Prop} {a : Act} (h : K a) : LexRG P ops S [] K a := h
theorem LexRG.yes {i : Nat} {r : List Nat} {K : Act → Prop} {a : Act} {o : Oper} (ho : ops.toList[i]? = some o) (hw : Region.wanted o (yielded ops a.tmps) = true) (v : Value) (hv : ∀ w, S w → (execOp a.eval o).run P w = .ok (.value v) w) (h : LexRG P ops S r K (a.put o.dst v)) : LexRG P ops S (i :: r) K a := ⟨o, v, by simpa using ho, .inl ⟨hw, hv⟩, h⟩
theorem LexRG.no {i : Nat} {r : List Nat} {K : Act → Prop} {a : Act} {o : Oper} (ho : ops.toList[i]? = some o) (hw : Region.wanted o (yielded ops a.tmps) = false) (h : LexRG P ops S r K (a.put o.dst undef)) : LexRG P ops S (i :: r) K a := ⟨o, undef, by simpa using ho, .inr ⟨hw, rfl⟩, h⟩
end
end Go.Proofs.Ytaigdioimldknaa
