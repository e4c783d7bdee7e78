/- Contracts of chapter 1: PutWord. -/
import Derived.Test.YtcelkmphdeaaeaaShut
import Derived.Test.YtcelkmphdeaaeaaBits
import Derived.Outline
namespace Go.Proofs.Ytcelkmphdeaaeaa
open Go.RowKit

set_option maxHeartbeats 400000 in
/-- A copy with more bytes behind it. -/
theorem joined_any (A B : Option Addr) (c d : Nat) (l l' : List UInt8) (w : World) (h : Reads w w.heap.size 1 A l.length (bys l)) (h' : Reads w w.heap.size 1 B l'.length (bys l')) (hn : l.length ≤ 1000000000) (hn' : l'.length ≤ 1000000000) :
    Calls Try.prog 76 #[.slice A l.length c, .slice B l'.length d] w fun e w' => ∃ v, e = .returned v ∧ Owns w' w.heap.size 5 v (l ++ l') ∧ Below w.heap.size w w' := by
  obtain ⟨i0, hi0, hz0, hz1, hz2⟩ := info_parts Try.info8
  go_enter Try.func76, Try.ntmps76
  go_wp2_with (first
    | (at_make; refine wpList_make_own _ rfl _ _ _ rfl w.heap.size 5 i0 _ 1 Try.underlying22 hi0 hz0 hz1 _ _ _ (l.length + l'.length) rfl rfl (by omega) (by rw [hz2]; omega) (by simp only [maxLen]; omega) (Nat.le_refl _) ?_; intro w1 hown1 hg1
       have hb1 : Below w.heap.size w w1 := (Below.refl _ _).grown hg1 (Nat.le_refl _) (fun _ hk => by cases hk))
    | (at_builtin
       refine wpList_append_any _ rfl (.tmp 12) (.tmp 13) _ rfl w.heap.size 5 i0 _ 1 1 Try.underlying22 hi0 hz0 hz1 hz2 rfl (by omega) _ 0 [] rfl hown1 w.heap.size A l.length c (bys l) rfl (h.below hb1) (bys_one l) (by simp only [maxLen]; omega) (by omega) hb1.size ?_
       intro v2 w2 hown2 hg2 hat2
       have hb2 : Below w.heap.size w w2 := hb1.grown hg2 hb1.size (fun k hk => (hown1.lt k hk).1))
    | (at_builtin
       refine wpList_append_any _ rfl (.tmp 15) (.tmp 16) _ rfl w.heap.size 5 i0 _ 1 1 Try.underlying22 hi0 hz0 hz1 hz2 rfl (by omega) v2 (0 + l.length) ([] ++ bys l) rfl hown2 w.heap.size B l'.length d (bys l') rfl (h'.below hb2) (bys_one l') (by simp only [maxLen]; omega) (by omega) hb2.size ?_
       intro v3 w3 hown3 hg3 hat3))
  go_ret
  refine ⟨v3, rfl, ?_, hb2.grown hg3 hb2.size (fun k hk => (hown2.lt k hk).1)⟩
  unfold Owns
  rw [bys_append, List.length_append]
  simpa using hown3

/-- The byte that an integer is cut to. -/
def u8 (n : Int) : UInt8 := UInt8.ofNat (n % 256).toNat
theorem u8_cell (n : Int) : (((u8 n).toNat : Nat) : Int) = n % 256 := by
  unfold u8
  simp
  omega

/-- The two bytes of a word. -/
def wordBytes (n : Int) : List UInt8 := [u8 (n / 256), u8 n]

theorem wordBytes_cells (n : Int) : bys (wordBytes n) = [.int .u8 (n / 256 % 256), .int .u8 (n % 256)] := by
  simp [bys, wordBytes, u8_cell]

theorem reads_new (w : World) (cs : Array Value) (n : Nat) (e : TypeId) (hs : cs.size = n) (hm : n ≤ maxLen) : Reads (w.alloc (.cells cs e)) (w.alloc (.cells cs e)).heap.size 1 (some ⟨w.heap.size, 0, none⟩) n cs.toList :=
  Reads.of_own (World.ownsRow_lit (base := 0) (e := e) (size := 1) w cs n (Nat.zero_le _) hm (by omega))

end Go.Proofs.Ytcelkmphdeaaeaa
