/- What the theorem needs, out of many texts. -/
import Derived.Test.YtoaaogacaibedaaGreatDoorShx1
import Derived.Test.YtoaaogacaibedaaGreatDoorShx2
import Derived.StillTailTactics
import Derived.WalkSmall
import Derived.Deep.DeepMust
import Derived.WalkKit
import Derived.Lib.QuoteBits
import Derived.Outline
namespace Go.Proofs.YtoaaogacaibedaaGreatDoor
open Go.RowKit
set_option maxRecDepth 100000
set_option linter.unusedVariables false
def halfL {α : Type} (z : α) (xs : List α) (k : Nat) : List α := xs.take k ++ List.replicate (xs.length - k) z
theorem halfL_length {α : Type} (z : α) (xs : List α) (k : Nat) (h : k ≤ xs.length) : (halfL z xs k).length = xs.length := by simp [halfL]; omega
theorem halfL_zero {α : Type} (z : α) (xs : List α) : halfL z xs 0 = List.replicate xs.length z := by simp [halfL]
theorem halfL_all {α : Type} (z : α) (xs : List α) : halfL z xs xs.length = xs := by simp [halfL]
theorem halfL_set {α : Type} (z : α) {xs : List α} {k : Nat} {x : α} (h : xs[k]? = some x) : (halfL z xs k).set k x = halfL z xs (k + 1) := by
 have hk : k < xs.length := (List.getElem?_eq_some_iff.1 h).1
 have e : xs.length - k = (xs.length - (k + 1)) + 1 := by omega
 unfold halfL
 rw [Rep.take_get h, e, List.replicate_succ, List.set_append_right _ _ (by simp; omega)]
 have : k - (xs.take k).length = 0 := by simp; omega
 rw [this]
 simp
theorem rows_zero {α : Type} (R : Rep α) (e : TypeId) (w : World) (base n : Nat) (v : Value) (z : α) (c : List Value) (cells : List Value) (h : w.ownsRow base e R.size v n cells) (hc : ∀ i, i < n → Rep.seg R.size i cells = c) (hz : ∀ w, R.own w base c z []) :
  Rep.OwnRows R e w base v (List.replicate n z) v.ownBlock.toList := by
 refine ⟨cells, List.replicate n [], by simpa using h, by simp, ?_, by simp, Rep.nodup_toList _⟩
 intro i x f hx hf
 rw [List.getElem?_replicate] at hx hf
 split at hx
 ·rename_i hi
  rw [if_pos hi] at hf
  injection hx with hx
  injection hf with hf
  subst hx hf
  rw [hc i hi]
  exact hz w
 ·cases hx
theorem bcell {W w1 : World} (hb : Below W.heap.size W w1) : (∀ b o, b < W.heap.size → w1.cell? ⟨b, o, none⟩ = W.cell? ⟨b, o, none⟩) ∧ (∀ b o, b < W.heap.size → w1.frozen? ⟨b, o, none⟩ = W.frozen? ⟨b, o, none⟩) :=
 ⟨fun b o h => hb.cell (p := ⟨b, o, none⟩) h, fun b o h => hb.frozen (p := ⟨b, o, none⟩) h⟩
theorem Owns.setLow {w : World} {base : Nat} {e : TypeId} {v : Value} {l : List UInt8} (h : Owns w base e v l) {p : Addr} (hp : p.block < base) (u : Value) : Owns (w.setCell p u) base e v l :=
 Rep.ownsRow_block h fun g hg => heap_setCell_other _ _ _ _ (by have := (h.lt g (by simpa using hg)).1; omega)
def Room (bound : Prop) (left : Nat) (w : World) (e : Ending) (w' : World) : Prop := ((∃ z : Nat, z ≤ left ∧ bound ∧ e = .returned (.int .i64 z)) ∨ e = .returned (.int .i64 (-1))) ∧ w = w'
def RoomB (bound : Prop) (left : Nat) (w : World) (e : Ending) (w' : World) : Prop := ((∃ z : Nat, z ≤ left ∧ bound ∧ e = .returned (.int .i64 z)) ∨ e = .returned (.int .i64 (-1))) ∧ Below w.heap.size w w'
theorem var_cell {w : World} {g t : Nat} {cs : Array Value} (h : w.heap[g]? = some (.cells cs t (0, 0))) (i : Nat) : w.cell? ⟨g, i, none⟩ = cs[i]? := cell_of_row w g i cs t (0, 0) h
theorem var_frozen {w : World} {g t : Nat} {cs : Array Value} (h : w.heap[g]? = some (.cells cs t (0, 0))) (i : Nat) : w.frozen? ⟨g, i, none⟩ = false := by simp [World.frozen?, h]
theorem var_set {w : World} {g t : Nat} {cs : Array Value} (h : w.heap[g]? = some (.cells cs t (0, 0))) (i : Nat) (u : Value) : (w.setCell ⟨g, i, none⟩ u).heap[g]? = some (.cells (cs.setIfInBounds i u) t (0, 0)) := by
 simp [World.setCell, Array.getElem?_modify, h]
theorem heap_alloc_new' (w : World) (o : Obj) {n : Nat} (h : n = w.heap.size) : (w.alloc o).heap[n]? = some o := by subst h; exact heap_alloc_new w o
theorem l1In_yes {x lo hi : Int} (w : World) (h1 : lo ≤ x) (h2 : x ≤ hi) : Calls Tryz.prog 67 #[.int .i64 x, .int .i64 lo, .int .i64 hi] w fun e w' => e = .returned (.bool true) ∧ w = w' := by
 go_enter Tryz.func67, Tryz.ntmps67
 go_wp2
 go_ret
 exact ⟨rfl, rfl⟩
theorem l1In_no {x lo hi : Int} (w : World) (h : ¬ (lo ≤ x ∧ x ≤ hi)) : Calls Tryz.prog 67 #[.int .i64 x, .int .i64 lo, .int .i64 hi] w fun e w' => e = .returned (.bool false) ∧ w = w' := by
 by_cases h1 : lo ≤ x
 ·have h2 : ¬ x ≤ hi := fun h2 => h ⟨h1, h2⟩
  clear h
  go_enter Tryz.func67, Tryz.ntmps67
  go_wp2
  go_ret
  exact ⟨rfl, rfl⟩
 ·clear h
  go_enter Tryz.func67, Tryz.ntmps67
  go_wp2
  go_ret
  exact ⟨rfl, rfl⟩
theorem quiet_left {P : Program} {f : FuncId} {args : Array Value} {w : World} {n : Nat} {v : Value}
  (h : Calls P f args (w.drewN n) fun e w' => e = .returned v ∧ w.drewN n = w') : Calls P f args (w.drewN n) fun e w'' => e = .returned v ∧ ∃ m, w'' = w.drewN m :=
 h.mono fun _ _ ⟨he, hm⟩ => ⟨he, n, hm.symm⟩
def RetBool (w : World) (b : Bool) (e : Ending) (w' : World) : Prop := e = .returned (.bool b) ∧ Below w.heap.size w w'
def AllP {α : Type} (P : α → Prop) (xs : List α) (k : Nat) : Prop := ∀ l, l ∈ xs.take k → P l
theorem AllP.zero {α : Type} (P : α → Prop) (xs : List α) : AllP P xs 0 := by intro l hl; simp at hl
theorem AllP.succ {α : Type} {P : α → Prop} {xs : List α} {k : Nat} {l : α} (h : AllP P xs k) (hx : xs[k]? = some l) (hl : P l) : AllP P xs (k + 1) := by
 intro m hm
 rw [Rep.take_get hx, List.mem_append] at hm
 rcases hm with hm | hm
 ·exact h m hm
 ·simp at hm; subst hm; exact hl
theorem AllP.all {α : Type} {P : α → Prop} {xs : List α} (h : AllP P xs xs.length) : ∀ l, l ∈ xs → P l := fun l hl => h l (by simpa using hl)
theorem Rep.only_of_below {w w' : World} (h : Below w.heap.size w w') : Rep.Only w w' [] := ⟨h.os, h.tape, h.output, h.size, fun k hk _ => h.block k hk⟩
theorem Rep.only_drew (w : World) : Rep.Only w w.drew [] := ⟨rfl, rfl, rfl, Nat.le_refl _, fun _ _ _ => rfl⟩
theorem Rep.only_alloc (w : World) (o : Obj) : Rep.Only w (w.alloc o) [] := Rep.only_of_below ((Below.refl _ _).alloc (Nat.le_refl _) o)
theorem Rep.var_only {w w' : World} {g : Nat} {o : Obj} {fp : List Nat} (h : Hid (w.heap[g]? = some o)) (ho : Rep.Only w w' fp) (hg : g < w.heap.size) (hn : g ∉ fp) : Hid (w'.heap[g]? = some o) := Lib.hid ((ho.block g hg hn).trans h.out)
theorem Rep.Only.then {w w1 w2 : World} {fp fp2 : List Nat} (h : Rep.Only w w1 fp) (h2 : Rep.Only w1 w2 fp2) (hf : ∀ a, a ∈ fp2 → a ∈ fp ∨ w.heap.size ≤ a) : Rep.Only w w2 fp :=
 ⟨h2.os.trans h.os, h2.tape.trans h.tape, h2.output.trans h.output, Nat.le_trans h.size h2.size, fun k hk hn => (h2.block k (Nat.lt_of_lt_of_le hk h.size) (fun e => by rcases hf k e with h3 | h3; (exact hn h3); omega)).trans (h.block k hk hn)⟩
theorem Rep.Only.cell {w w' : World} {fp : List Nat} (h : Rep.Only w w' fp) {b o : Nat} (hb : b < w.heap.size) (hn : b ∉ fp) : w'.cell? ⟨b, o, none⟩ = w.cell? ⟨b, o, none⟩ := World.cell?_of_block (h.block b hb hn)
def Later (w w' : World) : Prop := Below w.heap.size w w'
theorem Later.trans {w w1 w2 : World} (h : Later w w1) (h2 : Later w1 w2) : Later w w2 := Below.trans h (Below.mono h2 h.size)
theorem Later.drew (w : World) : Later w w.drew := belowD (Below.refl _ _) 1
theorem Later.drewN (w : World) (n : Nat) : Later w (w.drewN n) := belowD (Below.refl _ _) n
theorem Later.alloc (w : World) (o : Obj) : Later w (w.alloc o) := (Below.refl _ _).alloc (Nat.le_refl _) o
theorem Later.refl (w : World) : Later w w := Below.refl _ _
theorem Later.of {w w' : World} (h : Below w.heap.size w w') : Later w w' := h
class Keeps (F : World → Prop) : Prop where
 keeps : ∀ {w w' : World}, Later w w' → F w → F w'
instance Keeps.and {F G : World → Prop} [Keeps F] [Keeps G] : Keeps (fun w => F w ∧ G w) := ⟨fun h x => ⟨Keeps.keeps h x.1, Keeps.keeps h x.2⟩⟩
instance Keeps.hid {F : World → Prop} [Keeps F] : Keeps (fun w => Hid (F w)) := ⟨fun h x => Lib.hid (Keeps.keeps (F := F) h x.out)⟩
instance Keeps.at_ {α : Type} (R : Rep α) (cs : List Value) (x : α) : Keeps (fun w => R.at_ w w.heap.size cs x) := ⟨fun h x => R.more (Rep.at_below x h) h.size⟩
instance Keeps.reads (size n : Nat) (A : Option Addr) (xs : List Value) : Keeps (fun w => Reads w w.heap.size size A n xs) := ⟨fun h x => (x.below h).more h.size⟩
instance Keeps.own {α : Type} (R : Rep α) (base : Nat) (cs : List Value) (x : α) (fp : List Nat) : Keeps (fun w => R.own w base cs x fp) := ⟨fun h x => Rep.own_below x h⟩
instance Keeps.block (g : Nat) (o : Obj) : Keeps (fun w => w.heap[g]? = some o) := ⟨fun h x => (h.block g (Array.getElem?_eq_some_iff.1 x).1).trans x⟩
instance Keeps.cell (p : Addr) (v : Value) : Keeps (fun w => w.cell? p = some v) := ⟨fun h x => (h.cell (World.block_lt_of_cell? _ _ x)).trans x⟩
instance Keeps.lt (n : Nat) : Keeps (fun w => n < w.heap.size) := ⟨fun h x => Nat.lt_of_lt_of_le x h.size⟩
instance Keeps.le (n : Nat) : Keeps (fun w => n ≤ w.heap.size) := ⟨fun h x => Nat.le_trans x h.size⟩
instance Keeps.below (w0 : World) : Keeps (fun w => Below w0.heap.size w0 w) := ⟨fun h x => Later.trans x h⟩
instance Keeps.pure (p : Prop) : Keeps (fun _ => p) := ⟨fun _ x => x⟩
structure All (F : World → Prop) (w : World) : Prop where
 out : F w
theorem All.later {F : World → Prop} [Keeps F] {w w' : World} (h : All F w) (hb : Below w.heap.size w w') : All F w' := ⟨Keeps.keeps hb h.out⟩
theorem All.drew {F : World → Prop} [Keeps F] {w : World} (h : All F w) : All F w.drew := h.later (Later.drew w)
theorem All.alloc {F : World → Prop} [Keeps F] {w : World} (h : All F w) (o : Obj) : All F (w.alloc o) := h.later (Later.alloc w o)
end Go.Proofs.YtoaaogacaibedaaGreatDoor
namespace Go.Proofs.YtoaaogacaibedaaGreatDoor
open Go.Lib
set_option maxRecDepth 100000
theorem i64_and255 (n : Int) : bits .and .i64 n 255 = n % 256 := by
 have hm : (BitVec.ofInt 64 255).toNat = 2 ^ 8 - 1 := by decide
 have key : (BitVec.ofInt 64 n &&& BitVec.ofInt 64 255).toNat = (n % ((2 ^ 64 : Nat) : Int)).toNat % 2 ^ 8 := by
  rw [BitVec.toNat_and, BitVec.toNat_ofInt, hm, Nat.and_two_pow_sub_one_eq_mod]
 show IntKind.i64.wrap ((BitVec.ofInt 64 n &&& BitVec.ofInt 64 255).toNat : Nat) = n % 256
 rw [key, IntKind.wrap_i64]
 omega
theorem i64_and65535 (n : Int) : bits .and .i64 n 65535 = n % 65536 := by
 have hm : (BitVec.ofInt 64 65535).toNat = 2 ^ 16 - 1 := by decide
 have key : (BitVec.ofInt 64 n &&& BitVec.ofInt 64 65535).toNat = (n % ((2 ^ 64 : Nat) : Int)).toNat % 2 ^ 16 := by
  rw [BitVec.toNat_and, BitVec.toNat_ofInt, hm, Nat.and_two_pow_sub_one_eq_mod]
 show IntKind.i64.wrap ((BitVec.ofInt 64 n &&& BitVec.ofInt 64 65535).toNat : Nat) = n % 65536
 rw [key, IntKind.wrap_i64]
 omega
theorem i64_xor (a b : Nat) (ha : a < 4294967296) (hb : b < 4294967296) : bits .xor .i64 (a : Int) (b : Int) = ((a ^^^ b : Nat) : Int) := by
 show IntKind.i64.wrap ((BitVec.ofInt 64 (a : Int) ^^^ BitVec.ofInt 64 (b : Int)).toNat : Int) = _
 rw [BitVec.toNat_xor, ofInt_u64 a (by omega), ofInt_u64 b (by omega)]
 have h : a ^^^ b < 2 ^ 32 := Nat.xor_lt_two_pow ha hb
 exact wrap_i64_small _ (by omega)
theorem i64_or_nat (a b : Nat) (ha : a < 4294967296) (hb : b < 4294967296) : bits .or .i64 (a : Int) (b : Int) = ((a ||| b : Nat) : Int) := by
 show IntKind.i64.wrap ((BitVec.ofInt 64 (a : Int) ||| BitVec.ofInt 64 (b : Int)).toNat : Int) = _
 rw [BitVec.toNat_or, ofInt_u64 a (by omega), ofInt_u64 b (by omega)]
 have h : a ||| b < 2 ^ 32 := Nat.or_lt_two_pow ha hb
 exact wrap_i64_small _ (by omega)
theorem i64_or_join (a b : Nat) (ha : a < 256) (hb : b < 256) : bits .or .i64 ((a : Int) * 256) (b : Int) = (a : Int) * 256 + b := by
 have e : ((a : Int) * 256) = ((256 * a : Nat) : Int) := by omega
 rw [e, i64_or_nat _ _ (by omega) (by omega)]
 have h := Nat.two_pow_add_eq_or_of_lt (i := 8) (b := b) (by omega) a
 have h' : 256 * a ||| b = 256 * a + b := by simpa using h.symm
 rw [h']
 omega
end Go.Proofs.YtoaaogacaibedaaGreatDoor
namespace Go.Proofs.YtoaaogacaibedaaGreatDoor
open Go.RowKit
set_option maxRecDepth 100000
set_option maxHeartbeats 400000 in
theorem joined_any (A B : Option Addr) (c d : Nat) (l l' : List UInt8) (w : World) (h : Reads w w.heap.size 1 A l.length (bys l)) (h' : Reads w w.heap.size 1 B l'.length (bys l')) (hn : l.length ≤ 1000000000) (hn' : l'.length ≤ 1000000000) :
    Calls Tryz.prog 138 #[.slice A l.length c, .slice B l'.length d] w fun e w' => ∃ v, e = .returned v ∧ Owns w' w.heap.size 5 v (l ++ l') ∧ Below w.heap.size w w' := by
  obtain ⟨i0, hi0, hz0, hz1, hz2⟩ := info_parts Tryz.info8
  go_enter Tryz.func138, Tryz.ntmps138
  go_wp2_with (first
    | (at_make; refine wpList_make_own _ rfl _ _ _ rfl w.heap.size 5 i0 _ 1 Tryz.underlying22 hi0 hz0 hz1 _ _ _ (l.length + l'.length) rfl rfl (by omega) (by rw [hz2]; omega) (by simp only [maxLen]; omega) (Nat.le_refl _) ?_; intro w1 hown1 hg1
       have hb1 : Below w.heap.size w w1 := (Below.refl _ _).grown hg1 (Nat.le_refl _) (fun _ hk => by cases hk))
    | (at_builtin
       refine wpList_append_any _ rfl (.tmp 12) (.tmp 13) _ rfl w.heap.size 5 i0 _ 1 1 Tryz.underlying22 hi0 hz0 hz1 hz2 rfl (by omega) _ 0 [] rfl hown1 w.heap.size A l.length c (bys l) rfl (h.below hb1) (bys_one l) (by simp only [maxLen]; omega) (by omega) hb1.size ?_
       intro v2 w2 hown2 hg2 hat2
       have hb2 : Below w.heap.size w w2 := hb1.grown hg2 hb1.size (fun k hk => (hown1.lt k hk).1))
    | (at_builtin
       refine wpList_append_any _ rfl (.tmp 15) (.tmp 16) _ rfl w.heap.size 5 i0 _ 1 1 Tryz.underlying22 hi0 hz0 hz1 hz2 rfl (by omega) v2 (0 + l.length) ([] ++ bys l) rfl hown2 w.heap.size B l'.length d (bys l') rfl (h'.below hb2) (bys_one l') (by simp only [maxLen]; omega) (by omega) hb2.size ?_
       intro v3 w3 hown3 hg3 hat3))
  go_ret
  refine ⟨v3, rfl, ?_, hb2.grown hg3 hb2.size (fun k hk => (hown2.lt k hk).1)⟩
  unfold Owns
  rw [bys_append, List.length_append]
  simpa using hown3
def u8 (n : Int) : UInt8 := UInt8.ofNat (n % 256).toNat
theorem u8_cell (n : Int) : (((u8 n).toNat : Nat) : Int) = n % 256 := by
 unfold u8
 simp
 omega
def wordBytes (n : Int) : List UInt8 := [u8 (n / 256), u8 n]
theorem wordBytes_cells (n : Int) : bys (wordBytes n) = [.int .u8 (n / 256 % 256), .int .u8 (n % 256)] := by
 simp [bys, wordBytes, u8_cell]
theorem reads_new (w : World) (cs : Array Value) (n : Nat) (e : TypeId) (hs : cs.size = n) (hm : n ≤ maxLen) : Reads (w.alloc (.cells cs e)) (w.alloc (.cells cs e)).heap.size 1 (some ⟨w.heap.size, 0, none⟩) n cs.toList :=
 Reads.of_own (World.ownsRow_lit (base := 0) (e := e) (size := 1) w cs n (Nat.zero_le _) hm (by omega))
set_option maxHeartbeats 400000 in
theorem putWord_any (A : Option Addr) (c : Nat) (n : Int) (l : List UInt8) (w : World) (h : Reads w w.heap.size 1 A l.length (bys l)) (hn : l.length ≤ 100000000) :
  Calls Tryz.prog 105 #[.slice A l.length c, .int .i64 n] w fun e w' => ∃ v, e = .returned v ∧ Owns w' w.heap.size 5 v (l ++ wordBytes n) ∧ Below w.heap.size w w' := by
 go_enter Tryz.func105, Tryz.ntmps105
 go_wp2_with fail
 have hnew := reads_new w #[.int .u8 (n / 256 % 256), .int .u8 (n % 256)] 2 5 rfl (by simp [maxLen])
 refine (joined_any A _ c 2 l (wordBytes n) _ ((h.alloc (Nat.le_refl _) _).more (by simp)) (by rw [wordBytes_cells]; exact hnew) (by omega) (by simp [wordBytes])).mono ?_
 rintro e w1 ⟨v, rfl, hown, hb⟩
 have hb' : Below w.heap.size w w1 := ((Below.refl _ _).alloc (Nat.le_refl _) _).trans (hb.mono (by simp))
 go_wp2
 go_ret
 exact ⟨v, rfl, ownsRow_mono hown (by simp), hb'⟩
set_option maxHeartbeats 400000 in
theorem putWordS_any (A : Option Addr) (c : Nat) (n : Int) (l : List UInt8) (w : World) (h : Reads w w.heap.size 1 A l.length (bys l)) (hn : l.length ≤ 100000000) :
    Calls Tryz.prog 95 #[.slice A l.length c, .int .i64 n] w fun e w' => ∃ v, e = .returned v ∧ Owns w' w.heap.size 5 v (l ++ wordBytes n) ∧ Below w.heap.size w w' := by
  obtain ⟨i0, hi0, hz0, hz1, hz2⟩ := info_parts Tryz.info8
  have hb0 : Below w.heap.size w (w.alloc (.cells #[] 5)) := (Below.refl _ _).alloc (Nat.le_refl _) _
  have hown0 : (w.alloc (.cells #[] 5)).ownsRow w.heap.size 5 1 (.slice (some ⟨w.heap.size, 0, none⟩) 0 0) 0 [] := World.ownsRow_lit w #[] 0 (Nat.le_refl _) (by simp) rfl
  go_enter Tryz.func95, Tryz.ntmps95
  go_wp2_with (first
    | (at_builtin
       refine wpList_append_any _ rfl (.tmp 5) (.tmp 6) _ rfl w.heap.size 5 i0 _ 1 1 Tryz.underlying22 hi0 hz0 hz1 hz2 rfl (by omega) _ 0 [] rfl hown0 w.heap.size A l.length c (bys l) rfl (h.below hb0) (bys_one l) (by simp only [maxLen]; omega) (by omega) hb0.size ?_
       intro v2 w2 hown2 hg2 hat2
       have hb2 : Below w.heap.size w w2 := hb0.grown hg2 hb0.size (fun k hk => (hown0.lt k hk).1)
       clear hown0 hg2 hat2)
    | (at_builtin
       have hnew := reads_new w2 #[.int .u8 (bits BinOp.and IntKind.i64 (n / 256) 255 % 256), .int .u8 (bits BinOp.and IntKind.i64 n 255 % 256)] 2 5 rfl (by simp [maxLen])
       refine wpList_append_any _ rfl (.tmp 7) (.tmp 15) _ rfl w.heap.size 5 i0 _ 1 1 Tryz.underlying22 hi0 hz0 hz1 hz2 rfl (by omega) v2 (0 + l.length) ([] ++ bys l) rfl (hown2.alloc _) _ _ 2 _ _ rfl hnew (by simp; exact ⟨rfl, rfl⟩) (by simp only [maxLen]; omega) (by omega) (Nat.le_trans hb2.size (by simp)) ?_
       clear hnew
       intro v3 w3 hown3 hg3 hat3))
  go_ret
  refine ⟨v3, rfl, ?_, (hb2.alloc hb2.size _).grown hg3 (Nat.le_trans hb2.size (by simp)) (fun k hk => (hown2.lt k hk).1)⟩
  have e1 : (n / 256) % 256 % 256 = n / 256 % 256 := by omega
  have e2 : n % 256 % 256 = n % 256 := by omega
  rw [i64_and255, i64_and255, e1, e2] at hown3
  unfold Owns
  rw [bys_append, List.length_append, wordBytes_cells]
  simpa [wordBytes] using hown3
end Go.Proofs.YtoaaogacaibedaaGreatDoor
namespace Go.Proofs.YtoaaogacaibedaaGreatDoor
set_option maxRecDepth 100000
def crcBit (s : Nat) : Nat := if 65535 < s * 2 then (s * 2) ^^^ 69665 else s * 2
def crcBits : Nat → Nat → Nat
 | 0, s => s
 | j + 1, s => crcBit (crcBits j s)
def crcByte (s : Nat) (b : UInt8) : Nat := crcBits 8 (s ^^^ (b.toNat * 256))
def crc (l : List UInt8) : Nat := l.foldl crcByte 65535
def crcTo (l : List UInt8) (k : Nat) : Nat := crc (l.take k)
theorem crcBit_lt {s : Nat} (h : s < 65536) : crcBit s < 65536 := by
 unfold crcBit
 split
 ·rename_i hb
  have e : (s * 2) ^^^ 69665 = ((s * 2) % 2 ^ 16) ^^^ (69665 % 2 ^ 16) := by
   have h1 : ((s * 2) ^^^ 69665) < 2 ^ 16 := by
    have hlt : (s * 2) ^^^ 69665 < 2 ^ 17 := Nat.xor_lt_two_pow (by omega) (by omega)
    rcases Nat.lt_or_ge ((s * 2) ^^^ 69665) (2 ^ 16) with h | h
    ·exact h
    ·exfalso
     have hb16 : ((s * 2) ^^^ 69665).testBit 16 = true := by
      rw [Nat.testBit_eq_decide_div_mod_eq]
      simp
      omega
     rw [Nat.testBit_xor] at hb16
     have e1 : (s * 2).testBit 16 = true := by
      rw [Nat.testBit_eq_decide_div_mod_eq]
      simp
      omega
     have e2 : (69665).testBit 16 = true := by decide
     rw [e1, e2] at hb16
     cases hb16
   rw [← Nat.xor_mod_two_pow, Nat.mod_eq_of_lt h1]
  rw [e]
  have h2 : ((s * 2) % 2 ^ 16) ^^^ (69665 % 2 ^ 16) < 2 ^ 16 := Nat.xor_lt_two_pow (Nat.mod_lt _ (by decide)) (Nat.mod_lt _ (by decide))
  exact h2
 ·omega
theorem crcBits_lt {s : Nat} (h : s < 65536) : ∀ j, crcBits j s < 65536
 | 0 => h
 | j + 1 => crcBit_lt (crcBits_lt h j)
theorem crcByte_lt {s : Nat} (h : s < 65536) (b : UInt8) : crcByte s b < 65536 := by
 have hb : b.toNat < 256 := b.toNat_lt
 have h' : s ^^^ (b.toNat * 256) < 2 ^ 16 := Nat.xor_lt_two_pow (by omega) (by omega)
 exact crcBits_lt (by omega) 8
theorem crc_foldl_lt (l : List UInt8) : ∀ (s : Nat), s < 65536 → l.foldl crcByte s < 65536 := by
 induction l with
 | nil => intro s h; rw [List.foldl_nil]; exact h
 | cons b l ih => intro s h; rw [List.foldl_cons]; exact ih _ (crcByte_lt h b)
theorem crc_lt (l : List UInt8) : crc l < 65536 := crc_foldl_lt l _ (by omega)
theorem crcTo_lt (l : List UInt8) (k : Nat) : crcTo l k < 65536 := crc_lt _
theorem crcTo_succ {l : List UInt8} {k : Nat} {b : UInt8} (h : l[k]? = some b) : crcTo l (k + 1) = crcByte (crcTo l k) b := by
 unfold crcTo crc
 rw [List.take_add_one, h, List.foldl_append]
 simp only [Option.toList, List.foldl_cons, List.foldl_nil]
theorem crcTo_all (l : List UInt8) : crcTo l l.length = crc l := by unfold crcTo; rw [List.take_length]
theorem crc_xor {s : Nat} {b : UInt8} (h : s < 65536) : bits .xor .i64 (s : Int) (256 * (b.toNat : Int)) = ((s ^^^ (b.toNat * 256) : Nat) : Int) := by
 have hb : b.toNat < 256 := b.toNat_lt
 rw [show (256 * (b.toNat : Int)) = ((b.toNat * 256 : Nat) : Int) by omega]
 exact i64_xor _ _ (by omega) (by omega)
theorem crc_xor' {s : Nat} {b : UInt8} (h : s < 65536) : bits .xor .i64 (s : Int) ((b.toNat : Int) * 256) = ((s ^^^ (b.toNat * 256) : Nat) : Int) := by
 rw [Int.mul_comm]; exact crc_xor h
theorem crc_xor_lt {s : Nat} {b : UInt8} (h : s < 65536) : s ^^^ (b.toNat * 256) < 65536 := by
 have hb : b.toNat < 256 := b.toNat_lt
 have h' : s ^^^ (b.toNat * 256) < 2 ^ 16 := Nat.xor_lt_two_pow (by omega) (by omega)
 omega
theorem crc_top {s : Nat} (h : s < 65536) (ht : 65535 < (s : Int) * 2) : bits .xor .i64 ((s : Int) * 2) 69665 = ((crcBit s : Nat) : Int) := by
 have e : ((s : Int) * 2) = ((s * 2 : Nat) : Int) := by omega
 have e2 : (69665 : Int) = ((69665 : Nat) : Int) := by omega
 rw [e, e2, i64_xor _ _ (by omega) (by omega)]
 unfold crcBit
 rw [if_pos (by omega)]
theorem crc_low {s : Nat} (ht : ¬ 65535 < (s : Int) * 2) : (s : Int) * 2 = ((crcBit s : Nat) : Int) := by
 unfold crcBit
 rw [if_neg (by omega)]
 omega
theorem crc_mask (l : List UInt8) : ((crc l : Nat) : Int) % 65536 = (crc l : Nat) := by
 have := crc_lt l
 omega
end Go.Proofs.YtoaaogacaibedaaGreatDoor
namespace Go.Proofs.YtoaaogacaibedaaGreatDoor
open Go.RowKit
set_option maxRecDepth 100000
set_option linter.unusedVariables false
def inI (x lo hi : Int) : Bool := decide (lo ≤ x ∧ x ≤ hi)
def withSum (b : List UInt8) : List UInt8 := b ++ wordBytes (crc b)
theorem l1In_b {x lo hi : Int} {b : Bool} (h : inI x lo hi = b) (w : World) : Calls Tryz.prog 67 #[.int .i64 x, .int .i64 lo, .int .i64 hi] w fun e w' => e = .returned (.bool b) ∧ w = w' := by
 unfold inI at h
 cases b
 ·exact l1In_no w (of_decide_eq_false h)
 ·have := of_decide_eq_true h
  exact l1In_yes w this.1 this.2
set_option maxHeartbeats 1000000 in
theorem within_b {x lo hi : Int} {b : Bool} (h : inI x lo hi = b) (w : World) : Calls Tryz.prog 71 #[.int .i64 x, .int .i64 lo, .int .i64 hi] w fun e w' => e = .returned (.bool b) ∧ w = w' := by
 unfold inI at h
 by_cases h1 : lo ≤ x
 ·by_cases h2 : x ≤ hi
  ·obtain rfl : b = true := by rw [← h]; simp; omega
   clear h
   go_enter Tryz.func71, Tryz.ntmps71
   go_wp2
   go_ret
   exact ⟨rfl, rfl⟩
  ·obtain rfl : b = false := by rw [← h]; simp; omega
   clear h
   go_enter Tryz.func71, Tryz.ntmps71
   go_wp2
   go_ret
   exact ⟨rfl, rfl⟩
 ·obtain rfl : b = false := by rw [← h]; simp; omega
  clear h
  go_enter Tryz.func71, Tryz.ntmps71
  go_wp2
  go_ret
  exact ⟨rfl, rfl⟩
def RetOwn (w : World) (l : List UInt8) (e : Ending) (w' : World) : Prop := ∃ v, e = .returned v ∧ Owns w' w.heap.size 5 v l ∧ Below w.heap.size w w'
theorem own_empty (w : World) (base : Nat) (hb : base ≤ w.heap.size) : Owns (w.alloc (.cells #[] 5)) base 5 (.slice (some ⟨w.heap.size, 0, none⟩) 0 0) [] :=
 World.ownsRow_lit w #[] 0 hb (by simp) rfl
theorem one_u8 (w : World) (n : Int) : Reads (w.alloc (.cells #[.int .u8 (n % 256)] 5)) (w.alloc (.cells #[.int .u8 (n % 256)] 5)).heap.size 1 (some ⟨w.heap.size, 0, none⟩) 1 (bys [u8 n]) := by
 have h := reads_new w #[.int .u8 (n % 256)] 1 5 rfl (by simp [maxLen])
 have e : bys [u8 n] = [.int .u8 (n % 256)] := by simp [bys, u8_cell]
 rw [e]
 exact h
theorem l1Same_any (A B : Option Addr) (c c' M M' : Nat) (a b : List UInt8) (w : World) (h : Reads w M 1 A a.length (bys a)) (h' : Reads w M' 1 B b.length (bys b)) :
  Calls Tryz.prog 102 #[.slice A a.length c, .slice B b.length c'] w fun e w' => e = .returned (.bool (a == b)) ∧ w = w' := by
 have h1 := string_run (P := Tryz.prog) (c := c) Tryz.underlying22 Tryz.underlying5 Tryz.underlying9 h
 have h2 := string_run (P := Tryz.prog) (c := c') Tryz.underlying22 Tryz.underlying5 Tryz.underlying9 h'
 go_enter Tryz.func102, Tryz.ntmps102
 go_wp2
 go_ret
 simp
def gwOk (l : List UInt8) (p : Int) : Bool := decide (0 ≤ p) && decide (p + 2 ≤ l.length)
def gwVal (l : List UInt8) (p : Int) : Int := if gwOk l p then ((l.getD p.toNat 0).toNat : Int) * 256 + ((l.getD (p.toNat + 1) 0).toNat : Int) else 0
def gwNext (l : List UInt8) (p : Int) : Int := if gwOk l p then p + 2 else 0
theorem gw_no {l : List UInt8} {p : Int} (h : p < 0 ∨ (l.length : Int) - 2 < p) : gwOk l p = false ∧ gwVal l p = 0 ∧ gwNext l p = 0 := by
 have e : gwOk l p = false := by
  unfold gwOk
  rcases h with h | h
  ·rw [decide_eq_false (by omega)]; rfl
  ·rw [decide_eq_false (p := p + 2 ≤ l.length) (by omega), Bool.and_false]
 exact ⟨e, by simp [gwVal, e], by simp [gwNext, e]⟩
theorem gw_yes {l : List UInt8} {k : Nat} {x y : UInt8} (h : k + 2 ≤ l.length) (hx : l[k]? = some x) (hy : l[k + 1]? = some y) :
  gwOk l k = true ∧ gwVal l k = (x.toNat : Int) * 256 + y.toNat ∧ gwNext l k = (k : Int) + 2 := by
 have e : gwOk l k = true := by
  unfold gwOk
  rw [decide_eq_true (by omega), decide_eq_true (by omega)]; rfl
 refine ⟨e, ?_, by simp [gwNext, e]⟩
 unfold gwVal
 rw [if_pos e]
 simp [hx, hy]
theorem ret_iib {k k' : IntKind} {a a' b b' : Int} {c c' : Bool} (h1 : a = a') (h2 : b = b') (h3 : c = c') : Ending.returned (.tuple #[.int k a, .int k' b, .bool c]) = .returned (.tuple #[.int k a', .int k' b', .bool c']) := by rw [h1, h2, h3]
theorem ret_bool {c c' : Bool} (h : c = c') : Ending.returned (.bool c) = .returned (.bool c') := by rw [h]
theorem byte_lt (u : UInt8) : u.toNat < 256 := u.toNat_lt
set_option maxHeartbeats 400000 in
theorem getWord_any (A : Option Addr) (c : Nat) (p : Int) (l : List UInt8) (w : World) (h : Reads w w.heap.size 1 A l.length (bys l)) (hn : l.length ≤ 100000000) :
  Calls Tryz.prog 134 #[.slice A l.length c, .int .i64 p] w fun e w' => e = .returned (.tuple #[.int .i64 (gwVal l p), .int .i64 (gwNext l p), .bool (gwOk l p)]) ∧ ∃ n, w' = w.drewN n := by
 by_cases h0 : p < 0
 ·obtain ⟨e1, e2, e3⟩ := gw_no (l := l) (.inl h0)
  have E1 := Lib.hid e1
  have E2 := Lib.hid e2
  have E3 := Lib.hid e3
  clear e1 e2 e3
  go_enter Tryz.func134, Tryz.ntmps134
  go_wp2
  go_ret3
  exact ⟨ret_iib E2.out.symm E3.out.symm E1.out.symm, 0, rfl⟩
 ·obtain ⟨k, rfl⟩ := Int.eq_ofNat_of_zero_le (by omega : 0 ≤ p)
  by_cases h1 : (l.length : Int) - 2 < (k : Int)
  ·obtain ⟨e1, e2, e3⟩ := gw_no (l := l) (.inr h1)
   have E1 := Lib.hid e1
   have E2 := Lib.hid e2
   have E3 := Lib.hid e3
   clear e1 e2 e3
   go_enter Tryz.func134, Tryz.ntmps134
   go_wp2
   go_ret3
   exact ⟨ret_iib E2.out.symm E3.out.symm E1.out.symm, 0, rfl⟩
  ·obtain ⟨b, off, x, rfl, _, hx, hcx⟩ := h.byte (k := k) (by omega)
   obtain ⟨b', off', y, hA', _, hy, hcy⟩ := h.byte (k := k + 1) (by omega)
   injection hA' with hA'
   injection hA' with hA1 hA2
   subst hA1
   subst hA2
   obtain ⟨e1, e2, e3⟩ := gw_yes (by omega) hx hy
   have E1 := Lib.hid e1
   have E2 := Lib.hid e2
   have E3 := Lib.hid e3
   have hxl := byte_lt x
   have hyl := byte_lt y
   clear e1 e2 e3 hx hy h
   have i1 : (0 : Int) ≤ (k : Int) := by omega
   have i2 : (k : Int) < (l.length : Int) := by omega
   have i3 : (k : Int) + 1 < (l.length : Int) := by omega
   have hj := i64_or_join x.toNat y.toNat hxl hyl
   go_enter Tryz.func134, Tryz.ntmps134
   go_wp2
   go_quiet (fail)
   go_wp2
   go_ret3
   exact ⟨ret_iib E2.out.symm E3.out.symm E1.out.symm, _, rfl⟩
set_option maxHeartbeats 400000 in
theorem getWordS_any (A : Option Addr) (c : Nat) (p : Int) (l : List UInt8) (w : World) (h : Reads w w.heap.size 1 A l.length (bys l)) (hn : l.length ≤ 100000000) :
  Calls Tryz.prog 101 #[.slice A l.length c, .int .i64 p] w fun e w' => e = .returned (.tuple #[.int .i64 (gwVal l p), .int .i64 (gwNext l p), .bool (gwOk l p)]) ∧ ∃ n, w' = w.drewN n := by
 by_cases h0 : p < 0
 ·obtain ⟨e1, e2, e3⟩ := gw_no (l := l) (.inl h0)
  have E1 := Lib.hid e1
  have E2 := Lib.hid e2
  have E3 := Lib.hid e3
  clear e1 e2 e3
  go_enter Tryz.func101, Tryz.ntmps101
  go_wp2
  go_ret3
  exact ⟨ret_iib E2.out.symm E3.out.symm E1.out.symm, 0, rfl⟩
 ·obtain ⟨k, rfl⟩ := Int.eq_ofNat_of_zero_le (by omega : 0 ≤ p)
  by_cases h1 : (l.length : Int) - 2 < (k : Int)
  ·obtain ⟨e1, e2, e3⟩ := gw_no (l := l) (.inr h1)
   have E1 := Lib.hid e1
   have E2 := Lib.hid e2
   have E3 := Lib.hid e3
   clear e1 e2 e3
   go_enter Tryz.func101, Tryz.ntmps101
   go_wp2
   go_ret3
   exact ⟨ret_iib E2.out.symm E3.out.symm E1.out.symm, 0, rfl⟩
  ·obtain ⟨b, off, x, rfl, _, hx, hcx⟩ := h.byte (k := k) (by omega)
   obtain ⟨b', off', y, hA', _, hy, hcy⟩ := h.byte (k := k + 1) (by omega)
   injection hA' with hA'
   injection hA' with hA1 hA2
   subst hA1
   subst hA2
   obtain ⟨e1, e2, e3⟩ := gw_yes (by omega) hx hy
   have E1 := Lib.hid e1
   have E2 := Lib.hid e2
   have E3 := Lib.hid e3
   have hxl := byte_lt x
   have hyl := byte_lt y
   clear e1 e2 e3 hx hy h
   have i1 : (0 : Int) ≤ (k : Int) := by omega
   have i2 : (k : Int) < (l.length : Int) := by omega
   have i3 : (k : Int) + 1 < (l.length : Int) := by omega
   go_enter Tryz.func101, Tryz.ntmps101
   go_wp2
   go_quiet (fail)
   go_wp2
   go_ret3
   exact ⟨ret_iib E2.out.symm E3.out.symm E1.out.symm, _, rfl⟩
def inB (b : UInt8) : Bool := decide (32 ≤ b.toNat) && decide (b.toNat ≤ 126)
def okB (l : List UInt8) : Bool := decide (l.length ≤ 100) && l.all inB
def okTo (l : List UInt8) (k : Nat) : Prop := (l.take k).all inB = true
theorem okTo_zero (l : List UInt8) : okTo l 0 := by simp [okTo]
theorem okTo_succ {l : List UInt8} {k : Nat} {b : UInt8} (h : okTo l k) (hb : l[k]? = some b) (hi : inB b = true) : okTo l (k + 1) := by
 unfold okTo at *
 rw [take_snoc_get hb, List.all_append, h]
 simp [hi]
theorem inB_yes {b : UInt8} (h1 : ¬ (b.toNat : Int) < 32) (h2 : ¬ 126 < (b.toNat : Int)) : inB b = true := by
 unfold inB; rw [decide_eq_true (by omega), decide_eq_true (by omega)]; rfl
theorem inB_no {b : UInt8} (h : (b.toNat : Int) < 32 ∨ 126 < (b.toNat : Int)) : inB b = false := by
 unfold inB
 rcases h with h | h
 ·rw [decide_eq_false (by omega)]; rfl
 ·rw [decide_eq_false (p := b.toNat ≤ 126) (by omega), Bool.and_false]
theorem okB_bad {l : List UInt8} {k : Nat} {b : UInt8} (hb : l[k]? = some b) (hi : inB b = false) : okB l = false := by
 have hm : b ∈ l := List.mem_of_getElem? hb
 unfold okB
 have : l.all inB = false := by
  rw [List.all_eq_false]
  exact ⟨b, hm, by simp [hi]⟩
 rw [this, Bool.and_false]
theorem okB_long {l : List UInt8} (h : 100 < l.length) : okB l = false := by
 unfold okB; rw [decide_eq_false (by omega)]; rfl
theorem okB_all {l : List UInt8} (h : okTo l l.length) (h1 : l.length ≤ 100) : okB l = true := by
 unfold okTo at h
 rw [List.take_length] at h
 unfold okB
 rw [decide_eq_true h1, h]; rfl
theorem str_get (s : ByteArray) (k : Nat) (hk : k < s.size) : s.data.toList[k]? = some s[k] := by
 have h' : k < s.data.toList.length := by simpa using hk
 rw [List.getElem?_eq_getElem h']
 simp
 rfl
set_option maxHeartbeats 400000 in
theorem textOk_any (s : ByteArray) (w : World) (hs : s.size ≤ 140737488351232) :
  Calls Tryz.prog 152 #[.string s] w fun e w' => e = .returned (.bool (okB s.data.toList)) ∧ w = w' := by
 by_cases hb : 100 < s.size
 ·have E := Lib.hid (okB_long (l := s.data.toList) (by simpa using hb))
  go_enter Tryz.func152, Tryz.ntmps152
  go_wp2
  go_ret
  exact ⟨ret_bool E.out.symm, rfl⟩
 ·go_enter Tryz.func152, Tryz.ntmps152
  go_wp2
  go_loop [9] (fun i => ∃ k : Nat, k ≤ s.size ∧ i = .int .i64 k ∧ okTo s.data.toList k) (fun i => s.size - (intOf i).toNat)
  case atStart => exact ⟨0, by omega, rfl, okTo_zero _⟩
  case round =>
   obtain ⟨k, hk, rfl, hok⟩ := hrel
   by_cases hlt : k < s.size
   ·have HG := Lib.hid (str_get s k hlt)
    have H := Lib.hid hok
    clear hok
    by_cases h1 : (s[k].toNat : Int) < 32
    ·have E := Lib.hid (okB_bad HG.out (inB_no (.inl h1)))
     go_wp2
     go_ret
     exact ⟨ret_bool E.out.symm, rfl⟩
    ·by_cases h2 : 126 < (s[k].toNat : Int)
     ·have E := Lib.hid (okB_bad HG.out (inB_no (.inr h2)))
      go_wp2
      go_ret
      exact ⟨ret_bool E.out.symm, rfl⟩
     ·have E := Lib.hid (okTo_succ H.out HG.out (inB_yes h1 h2))
      go_wp2
      go_round
      case rel => exact ⟨k + 1, by omega, by go_num, E.out⟩
      case measure => simp [intOf]; omega
   ·have he : k = s.size := by omega
    subst he
    have E := Lib.hid (okB_all (l := s.data.toList) (by simpa using hok) (by simp; omega))
    clear hok
    go_wp2
    go_ret
    exact ⟨ret_bool E.out.symm, rfl⟩
set_option maxHeartbeats 400000 in
theorem textOkS_any (s : ByteArray) (w : World) (hs : s.size ≤ 140737488351232) :
  Calls Tryz.prog 133 #[.string s] w fun e w' => e = .returned (.bool (okB s.data.toList)) ∧ w = w' := by
 go_enter Tryz.func133, Tryz.ntmps133
 go_wp2
 go_loop [3] (fun i => ∃ k : Nat, k ≤ s.size ∧ k ≤ 101 ∧ i = .int .i64 k ∧ okTo s.data.toList k) (fun i => s.size - (intOf i).toNat)
 case atStart => exact ⟨0, by omega, by omega, rfl, okTo_zero _⟩
 case round =>
  obtain ⟨k, hk, hk1, rfl, hok⟩ := hrel
  by_cases hlt : k < s.size
  ·by_cases hle : k ≤ 100
   ·have HG := Lib.hid (str_get s k hlt)
    have H := Lib.hid hok
    clear hok
    by_cases h1 : (s[k].toNat : Int) < 32
    ·have E := Lib.hid (okB_bad HG.out (inB_no (.inl h1)))
     go_wp2
     go_ret
     exact ⟨ret_bool E.out.symm, rfl⟩
    ·by_cases h2 : 126 < (s[k].toNat : Int)
     ·have E := Lib.hid (okB_bad HG.out (inB_no (.inr h2)))
      go_wp2
      go_ret
      exact ⟨ret_bool E.out.symm, rfl⟩
     ·have E := Lib.hid (okTo_succ H.out HG.out (inB_yes h1 h2))
      go_wp2
      go_round
      case rel => exact ⟨k + 1, by omega, by omega, by go_num, E.out⟩
      case measure => simp [intOf]; omega
   ·have hsz : 100 < s.size := by omega
    have E := Lib.hid (okB_long (l := s.data.toList) (by simpa using hsz))
    clear hok
    go_wp2
    go_ret
    exact ⟨ret_bool (by rw [E.out]; simp; omega), rfl⟩
  ·have he : k = s.size := by omega
   subst he
   by_cases hle : s.size ≤ 100
   ·have E := Lib.hid (okB_all (l := s.data.toList) (by simpa using hok) (by simpa using hle))
    clear hok
    go_wp2
    go_ret
    exact ⟨ret_bool (by rw [E.out]; simp; omega), rfl⟩
   ·have E := Lib.hid (okB_long (l := s.data.toList) (by simp; omega))
    clear hok
    go_wp2
    go_ret
    exact ⟨ret_bool (by rw [E.out]; simp; omega), rfl⟩
set_option maxHeartbeats 1000000 in
theorem sum_any (A : Option Addr) (c : Nat) (l : List UInt8) (w : World) (h : Reads w w.heap.size 1 A l.length (bys l)) (hn : l.length ≤ 140737488351232) :
  Calls Tryz.prog 106 #[.slice A l.length c] w fun e w' => e = .returned (.int .i64 (crc l)) ∧ w = w' := by
 go_enter Tryz.func106, Tryz.ntmps106
 go_wp2
 go_loop [3, 8] (fun s i => ∃ k : Nat, k ≤ l.length ∧ i = .int .i64 k ∧ s = .int .i64 (crcTo l k : Nat)) (fun _ i => l.length - (intOf i).toNat)
 case atStart => exact ⟨0, by omega, rfl, rfl⟩
 case round =>
  obtain ⟨k, hk, rfl, rfl⟩ := hrel
  by_cases hlt : k < l.length
  ·obtain ⟨b, off, u, rfl, hbl, hu, hcell⟩ := h.byte hlt
   have HU := Lib.hid (crcTo_succ hu)
   have hS := crcTo_lt l k
   have hx := crc_xor (b := u) hS
   have hs0 := crc_xor_lt (b := u) hS
   obtain ⟨s0, e0⟩ : ∃ s0, crcTo l k ^^^ (u.toNat * 256) = s0 := ⟨_, rfl⟩
   rw [e0] at hx hs0
   have E0 := Lib.hid e0
   have hu256 := byte_lt u
   clear hu e0
   go_wp2
   go_loop [3, 17] (fun s i => ∃ j : Nat, j ≤ 8 ∧ i = .int .i64 j ∧ s = .int .i64 (crcBits j s0 : Nat)) (fun _ i => 8 - (intOf i).toNat)
   case atStart => exact ⟨0, by omega, rfl, rfl⟩
   case round =>
    obtain ⟨j, hj, rfl, rfl⟩ := hrel
    by_cases hj8 : j < 8
    ·have hT := crcBits_lt hs0 j
     have HB := Lib.hid (show crcBits (j + 1) s0 = crcBit (crcBits j s0) from rfl)
     obtain ⟨t, et⟩ : ∃ t, crcBits j s0 = t := ⟨_, rfl⟩
     rw [et] at hT HB
     rw [et]
     clear et
     by_cases hb : 65535 < (t : Int) * 2
     ·have hx2 := crc_top hT hb
      go_wp2
      go_round
      case rel => exact ⟨j + 1, by omega, by go_num, by rw [HB.out]⟩
      case measure => simp [intOf]; omega
     ·have HX2 := Lib.hid (crc_low hb)
      go_wp2
      go_round
      case rel => exact ⟨j + 1, by omega, by go_num, by rw [HB.out, ← HX2.out]⟩
      case measure => simp [intOf]; omega
    ·have he : j = 8 := by omega
     subst he
     have HE := Lib.hid (show crcTo l (k + 1) = crcBits 8 s0 by rw [HU.out, ← E0.out]; rfl)
     go_wp2
     go_round
     case rel => exact ⟨k + 1, by omega, by go_num, by rw [HE.out]⟩
     case measure => simp [intOf]; omega
  ·have he : k = l.length := by omega
   subst he
   rw [crcTo_all]
   have hm := i64_and65535 (crc l : Nat)
   rw [crc_mask] at hm
   go_wp2
   go_ret
   exact ⟨rfl, rfl⟩
set_option maxHeartbeats 1000000 in
theorem sumS_any (A : Option Addr) (c : Nat) (l : List UInt8) (w : World) (h : Reads w w.heap.size 1 A l.length (bys l)) (hn : l.length ≤ 140737488351232) :
  Calls Tryz.prog 97 #[.slice A l.length c] w fun e w' => e = .returned (.int .i64 (crc l)) ∧ w = w' := by
 go_enter Tryz.func97, Tryz.ntmps97
 go_wp2
 go_loop [3, 4] (fun s i => ∃ k : Nat, k ≤ l.length ∧ i = .int .i64 k ∧ s = .int .i64 (crcTo l k : Nat)) (fun _ i => l.length - (intOf i).toNat)
 case atStart => exact ⟨0, by omega, rfl, rfl⟩
 case round =>
  obtain ⟨k, hk, rfl, rfl⟩ := hrel
  by_cases hlt : k < l.length
  ·obtain ⟨b, off, u, rfl, hbl, hu, hcell⟩ := h.byte hlt
   have HU := Lib.hid (crcTo_succ hu)
   have hS := crcTo_lt l k
   have hx := crc_xor' (b := u) hS
   have hs0 := crc_xor_lt (b := u) hS
   obtain ⟨s0, e0⟩ : ∃ s0, crcTo l k ^^^ (u.toNat * 256) = s0 := ⟨_, rfl⟩
   rw [e0] at hx hs0
   have E0 := Lib.hid e0
   have hu256 := byte_lt u
   clear hu e0
   go_wp2
   go_loop [3, 5] (fun s i => ∃ j : Nat, j ≤ 8 ∧ i = .int .i64 j ∧ s = .int .i64 (crcBits j s0 : Nat)) (fun _ i => 8 - (intOf i).toNat)
   case atStart => exact ⟨0, by omega, rfl, rfl⟩
   case round =>
    obtain ⟨j, hj, rfl, rfl⟩ := hrel
    by_cases hj8 : j < 8
    ·have hT := crcBits_lt hs0 j
     have HB := Lib.hid (show crcBits (j + 1) s0 = crcBit (crcBits j s0) from rfl)
     obtain ⟨t, et⟩ : ∃ t, crcBits j s0 = t := ⟨_, rfl⟩
     rw [et] at hT HB
     rw [et]
     clear et
     by_cases hb : 65535 < (t : Int) * 2
     ·have hx2 := crc_top hT hb
      go_wp2
      go_round
      case rel => exact ⟨j + 1, by omega, by go_num, by rw [HB.out]⟩
      case measure => simp [intOf]; omega
     ·have HX2 := Lib.hid (crc_low hb)
      go_wp2
      go_round
      case rel => exact ⟨j + 1, by omega, by go_num, by rw [HB.out, ← HX2.out]⟩
      case measure => simp [intOf]; omega
    ·have he : j = 8 := by omega
     subst he
     have HE := Lib.hid (show crcTo l (k + 1) = crcBits 8 s0 by rw [HU.out, ← E0.out]; rfl)
     go_wp2
     go_round
     case rel => exact ⟨k + 1, by omega, by go_num, by rw [HE.out]⟩
     case measure => simp [intOf]; omega
  ·have he : k = l.length := by omega
   subst he
   rw [crcTo_all]
   have hm := i64_and65535 (crc l : Nat)
   rw [crc_mask] at hm
   go_wp2
   go_ret
   exact ⟨rfl, rfl⟩
end Go.Proofs.YtoaaogacaibedaaGreatDoor
