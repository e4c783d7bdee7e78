/- Contracts of chapter 1: PutWord. -/
import Derived.Test.YtgdhhhibkhfdlaaShut
import Derived.Test.YtgdhhhibkhfdlaaBits
import Derived.Outline
namespace Go.Proofs.Ytgdhhhibkhfdlaa
open Go.RowKit

set_option maxHeartbeats 400000 in
/-- A copy with more bytes behind it. -/
theorem joined_any (A B : Option Addr) (c d : Nat) (l l' : List UInt8) (w : World) (h : Reads w w.heap.size 1 A l.length (bys l)) (h' : Reads w w.heap.size 1 B l'.length (bys l')) (hn : l.length ≤ 1000000000) (hn' : l'.length ≤ 1000000000) :
    Calls Try.prog 88 #[.slice A l.length c, .slice B l'.length d] w fun e w' => ∃ v, e = .returned v ∧ Owns w' w.heap.size 5 v (l ++ l') ∧ Below w.heap.size w w' := by
  obtain ⟨i0, hi0, hz0, hz1, hz2⟩ := info_parts Try.info8
  go_enter Try.func88, Try.ntmps88
  go_wp2_with (first
    | (at_make; refine wpList_make_own _ rfl _ _ _ rfl w.heap.size 5 i0 _ 1 Try.underlying22 hi0 hz0 hz1 _ _ _ (l.length + l'.length) rfl rfl (by omega) (by rw [hz2]; omega) (by simp only [maxLen]; omega) (Nat.le_refl _) ?_; intro w1 hown1 hg1
       have hb1 : Below w.heap.size w w1 := (Below.refl _ _).grown hg1 (Nat.le_refl _) (fun _ hk => by cases hk))
    | (at_builtin
       refine wpList_append_any _ rfl (.tmp 12) (.tmp 13) _ rfl w.heap.size 5 i0 _ 1 1 Try.underlying22 hi0 hz0 hz1 hz2 rfl (by omega) _ 0 [] rfl hown1 w.heap.size A l.length c (bys l) rfl (h.below hb1) (bys_one l) (by simp only [maxLen]; omega) (by omega) hb1.size ?_
       intro v2 w2 hown2 hg2 hat2
       have hb2 : Below w.heap.size w w2 := hb1.grown hg2 hb1.size (fun k hk => (hown1.lt k hk).1))
    | (at_builtin
       refine wpList_append_any _ rfl (.tmp 15) (.tmp 16) _ rfl w.heap.size 5 i0 _ 1 1 Try.underlying22 hi0 hz0 hz1 hz2 rfl (by omega) v2 (0 + l.length) ([] ++ bys l) rfl hown2 w.heap.size B l'.length d (bys l') rfl (h'.below hb2) (bys_one l') (by simp only [maxLen]; omega) (by omega) hb2.size ?_
       intro v3 w3 hown3 hg3 hat3))
  go_ret
  refine ⟨v3, rfl, ?_, hb2.grown hg3 hb2.size (fun k hk => (hown2.lt k hk).1)⟩
  unfold Owns
  rw [bys_append, List.length_append]
  simpa using hown3

/-- The byte that an integer is cut to. -/
def u8 (n : Int) : UInt8 := UInt8.ofNat (n % 256).toNat
theorem u8_cell (n : Int) : (((u8 n).toNat : Nat) : Int) = n % 256 := by
  unfold u8
  simp
  omega

/-- The two bytes of a word. -/
def wordBytes (n : Int) : List UInt8 := [u8 (n / 256), u8 n]

theorem wordBytes_cells (n : Int) : bys (wordBytes n) = [.int .u8 (n / 256 % 256), .int .u8 (n % 256)] := by
  simp [bys, wordBytes, u8_cell]

theorem reads_new (w : World) (cs : Array Value) (n : Nat) (e : TypeId) (hs : cs.size = n) (hm : n ≤ maxLen) : Reads (w.alloc (.cells cs e)) (w.alloc (.cells cs e)).heap.size 1 (some ⟨w.heap.size, 0, none⟩) n cs.toList :=
  Reads.of_own (World.ownsRow_lit (base := 0) (e := e) (size := 1) w cs n (Nat.zero_le _) hm (by omega))

set_option maxHeartbeats 400000 in
theorem putWord_any (A : Option Addr) (c : Nat) (n : Int) (l : List UInt8) (w : World) (h : Reads w w.heap.size 1 A l.length (bys l)) (hn : l.length ≤ 100000000) :
    Calls Try.prog 162 #[.slice A l.length c, .int .i64 n] w fun e w' => ∃ v, e = .returned v ∧ Owns w' w.heap.size 5 v (l ++ wordBytes n) ∧ Below w.heap.size w w' := by
  go_enter Try.func162, Try.ntmps162
  go_wp2_with fail
  have hnew := reads_new w #[.int .u8 (n / 256 % 256), .int .u8 (n % 256)] 2 5 rfl (by simp [maxLen])
  refine (joined_any A _ c 2 l (wordBytes n) _ ((h.alloc (Nat.le_refl _) _).more (by simp)) (by rw [wordBytes_cells]; exact hnew) (by omega) (by simp [wordBytes])).mono ?_
  rintro e w1 ⟨v, rfl, hown, hb⟩
  have hb' : Below w.heap.size w w1 := ((Below.refl _ _).alloc (Nat.le_refl _) _).trans (hb.mono (by simp))
  go_wp2
  go_ret
  exact ⟨v, rfl, ownsRow_mono hown (by simp), hb'⟩

set_option maxHeartbeats 400000 in
theorem putWordS_any (A : Option Addr) (c : Nat) (n : Int) (l : List UInt8) (w : World) (h : Reads w w.heap.size 1 A l.length (bys l)) (hn : l.length ≤ 100000000) :
    Calls Try.prog 114 #[.slice A l.length c, .int .i64 n] w fun e w' => ∃ v, e = .returned v ∧ Owns w' w.heap.size 5 v (l ++ wordBytes n) ∧ Below w.heap.size w w' := by
  obtain ⟨i0, hi0, hz0, hz1, hz2⟩ := info_parts Try.info8
  have hb0 : Below w.heap.size w (w.alloc (.cells #[] 5)) := (Below.refl _ _).alloc (Nat.le_refl _) _
  have hown0 : (w.alloc (.cells #[] 5)).ownsRow w.heap.size 5 1 (.slice (some ⟨w.heap.size, 0, none⟩) 0 0) 0 [] := World.ownsRow_lit w #[] 0 (Nat.le_refl _) (by simp) rfl
  go_enter Try.func114, Try.ntmps114
  go_wp2_with (first
    | (at_builtin
       refine wpList_append_any _ rfl (.tmp 5) (.tmp 6) _ rfl w.heap.size 5 i0 _ 1 1 Try.underlying22 hi0 hz0 hz1 hz2 rfl (by omega) _ 0 [] rfl hown0 w.heap.size A l.length c (bys l) rfl (h.below hb0) (bys_one l) (by simp only [maxLen]; omega) (by omega) hb0.size ?_
       intro v2 w2 hown2 hg2 hat2
       have hb2 : Below w.heap.size w w2 := hb0.grown hg2 hb0.size (fun k hk => (hown0.lt k hk).1)
       clear hown0 hg2 hat2)
    | (at_builtin
       have hnew := reads_new w2 #[.int .u8 (bits BinOp.and IntKind.i64 (n / 256) 255 % 256), .int .u8 (bits BinOp.and IntKind.i64 n 255 % 256)] 2 5 rfl (by simp [maxLen])
       refine wpList_append_any _ rfl (.tmp 7) (.tmp 15) _ rfl w.heap.size 5 i0 _ 1 1 Try.underlying22 hi0 hz0 hz1 hz2 rfl (by omega) v2 (0 + l.length) ([] ++ bys l) rfl (hown2.alloc _) _ _ 2 _ _ rfl hnew (by simp; exact ⟨rfl, rfl⟩) (by simp only [maxLen]; omega) (by omega) (Nat.le_trans hb2.size (by simp)) ?_
       clear hnew
       intro v3 w3 hown3 hg3 hat3))
  go_ret
  refine ⟨v3, rfl, ?_, (hb2.alloc hb2.size _).grown hg3 (Nat.le_trans hb2.size (by simp)) (fun k hk => (hown2.lt k hk).1)⟩
  have e1 : (n / 256) % 256 % 256 = n / 256 % 256 := by omega
  have e2 : n % 256 % 256 = n % 256 := by omega
  rw [i64_and255, i64_and255, e1, e2] at hown3
  unfold Owns
  rw [bys_append, List.length_append, wordBytes_cells]
  simpa [wordBytes] using hown3

end Go.Proofs.Ytgdhhhibkhfdlaa
