/- Contracts of what FnNumbers draws. -/
import Derived.Test.YtablcabmdkhccaaDoorDrawMore
import Derived.Test.YtablcabmdkhccaaDoorNumText
namespace Go.Proofs.YtablcabmdkhccaaDoor
open Go.RowKit

theorem size_snoc (s : ByteArray) (b : UInt8) : (s ++ (⟨#[b]⟩ : ByteArray)).size = s.size + 1 := by
  rw [ByteArray.size_append]; rfl

set_option maxHeartbeats 1000000 in
/-- A text, short or long. -/
theorem l1Text_any (lo g : Nat) (A : Option Addr) (n c : Nat) (code : List UInt8) (w : World) (h : Cur w lo g A n c code) (hn : n ≤ 140737488351232) :
    Calls Tryd.prog 26 #[.pointer (some ⟨g, 0, none⟩)] w fun e w' => ∃ s : ByteArray, s.size ≤ 101 ∧ e = .returned (.string s) ∧ Cur w' lo g A n c code ∧ w.grownBy w' (some g) := by
  go_enter Tryd.func26, Tryd.ntmps26
  go_wp2_with fail
  refine (l1Once_any lo g A n c code 8 w h hn (by omega) (by omega)).mono ?_
  rintro e w1 ⟨b, rfl, hc1, hg1⟩
  cases b
  · go_wp2_with fail
    refine (l1Str_any lo g w1.heap.size A n c code [⟨#[]⟩, ⟨#[97]⟩, ⟨#[104, 101, 108, 108, 111]⟩, ⟨#[98, 101, 103, 105, 110]⟩, ⟨#[97, 32, 98]⟩, ⟨#[127]⟩, ⟨#[31]⟩, ⟨#[126]⟩] _ (hc1.alloc _) hn (by decide) (by decide) (heap_alloc_new w1 _) (by have := hc1.lt; omega)).mono ?_
    rintro e w2 ⟨s, hs, rfl, hc2, hg2⟩
    have hsz : s.size ≤ 101 := by
      simp only [List.mem_cons, List.not_mem_nil, or_false] at hs
      rcases hs with rfl | rfl | rfl | rfl | rfl | rfl | rfl | rfl <;> decide
    have HS := Lib.hid hsz
    clear hs hsz
    go_wp2_with fail
    go_ret
    exact ⟨s, HS.out, rfl, hc2, hg1.trans ((World.grownBy_alloc w1 _ _).trans hg2)⟩
  · go_wp2_with fail
    go_loopw [3] (fun v wr => ∃ s : ByteArray, s.size ≤ 101 ∧ v = .string s ∧ Cur wr lo g A n c code ∧ w.grownBy wr (some g)) (fun v _ => match v with | .string s => 102 - s.size | _ => 0)
    case atStart => exact ⟨⟨#[]⟩, by decide, rfl, hc1, hg1⟩
    case round =>
      obtain ⟨s, hsz, rfl, hc, hg⟩ := hrel
      clear hc1 hg1
      go_wp2_with fail
      refine (l1Int_any lo g wr.heap.size A n c code [100, 101, 60] _ (hc.alloc _) hn (by decide) (by decide) (heap_alloc_new wr _) (by have := hc.lt; omega)).mono ?_
      rintro e w2 ⟨z, hz, rfl, hc2, hg2⟩
      have hz2 : z ≤ 101 := by
        simp only [List.mem_cons, List.not_mem_nil, or_false] at hz
        omega
      have hgg : w.grownBy w2 (some g) := hg.trans ((World.grownBy_alloc wr _ _).trans hg2)
      clear hz hg hg2 hc
      by_cases hlt : (s.size : Int) < z
      · have hss := size_snoc s 120
        have HSS := Lib.hid hss
        clear hss
        go_wp2
        refine ⟨⟨s ++ ⟨#[120]⟩, by rw [HSS.out]; omega, rfl, hc2, hgg⟩, ?_⟩
        show 102 - (s ++ (⟨#[120]⟩ : ByteArray)).size < 102 - s.size
        rw [HSS.out]
        omega
      · go_wp2
        go_ret
        exact ⟨s, hsz, rfl, hc2, hgg⟩

set_option maxHeartbeats 1000000 in
theorem drawPutWord_any (A : Option Addr) (c : Nat) (code : List UInt8) (w : World) (h : Reads w w.heap.size 1 A code.length (bys code)) (hn : code.length ≤ 1048576) :
    Calls Tryd.prog 5 #[.slice A code.length c] w fun e w' => ∃ v l, ∃ z : Int, l.length ≤ 2 ∧ -9223372036854775808 ≤ z ∧ z ≤ 9223372036854775807 ∧ e = .returned (.tuple #[v, .int .i64 z]) ∧ Owns w' w.heap.size 5 v l ∧ Below w.heap.size w w' := by
  go_enter Tryd.func5, Tryd.ntmps5
  go_wp2_with fail
  refine (l1New_any A c code w h hn).mono ?_
  rintro e w1 ⟨g, rfl, hcur, hb1⟩
  have hgl := hcur.from_
  go_wp2_with fail
  refine (l1Below_any w.heap.size g A code.length c code 3 w1 hcur (by omega) (by omega) (by omega)).mono ?_
  rintro e w2 ⟨y, hy, rfl, hcur2, hg2⟩
  have hb2 : Below w.heap.size w w2 := hb1.grown hg2 hb1.size (fun k hk => by injection hk with hk; omega)
  go_wp2_with fail
  refine (l1Bytes_any w.heap.size g A code.length c code y w2 hcur2 (by omega) (by omega)).mono ?_
  rintro e w3 ⟨v, l, hl, rfl, hown, hcur3, hg3⟩
  have hb3 : Below w.heap.size w w3 := hb2.grown hg3 hb2.size (fun k hk => by injection hk with hk; omega)
  have hlen : l.length ≤ 2 := by omega
  have hglt := hcur2.lt
  have hne : v.ownBlock ≠ some g := fun e => by have := (hown.lt g e).1; omega
  have Hne := Lib.hid hne
  clear hl hne hg2 hg3 hcur hcur2 hb1
  go_wp2_with fail
  refine (l1Once_any w.heap.size g A code.length c code 3 w3 hcur3 (by omega) (by omega) (by omega)).mono ?_
  rintro e w4 ⟨b, rfl, hcur4, hg4⟩
  have hb4 : Below w.heap.size w w4 := hb3.grown hg4 hb3.size (fun k hk => by injection hk with hk; omega)
  have hown4 : Owns w4 w2.heap.size 5 v l := World.ownsRow.kept hown hg4 (.inr Hne.out)
  clear hown hg4 hcur3 hb3
  cases b
  · go_wp2_with fail
    refine (l1Below_any w.heap.size g A code.length c code 65536 w4 hcur4 (by omega) (by omega) (by omega)).mono ?_
    rintro e w5 ⟨z, hz, rfl, hcur5, hg5⟩
    have hb5 : Below w.heap.size w w5 := hb4.grown hg5 hb4.size (fun k hk => by injection hk with hk; omega)
    have hown5 : Owns w5 w2.heap.size 5 v l := World.ownsRow.kept hown4 hg5 (.inr Hne.out)
    have HZ := Lib.hid hz
    clear hz hown4 hg5
    go_wp2_with fail
    go_ret2
    exact ⟨v, l, z, hlen, by omega, by have := HZ.out; omega, rfl, ownsRow_mono hown5 hb2.size, hb5⟩
  · go_wp2_with fail
    refine (l1Odd_any w.heap.size g A code.length c code w4 hcur4 (by omega)).mono ?_
    rintro e w5 ⟨z, hz1, hz2, rfl, hcur5, hg5⟩
    have hb5 : Below w.heap.size w w5 := hb4.grown hg5 hb4.size (fun k hk => by injection hk with hk; omega)
    have hown5 : Owns w5 w2.heap.size 5 v l := World.ownsRow.kept hown4 hg5 (.inr Hne.out)
    have H1 := Lib.hid hz1
    have H2 := Lib.hid hz2
    clear hz1 hz2 hown4 hg5
    go_wp2_with fail
    go_ret2
    exact ⟨v, l, z, hlen, H1.out, H2.out, rfl, ownsRow_mono hown5 hb2.size, hb5⟩

set_option maxHeartbeats 1000000 in
theorem drawPutText_any (A : Option Addr) (c : Nat) (code : List UInt8) (w : World) (h : Reads w w.heap.size 1 A code.length (bys code)) (hn : code.length ≤ 1048576) :
    Calls Tryd.prog 8 #[.slice A code.length c] w fun e w' => ∃ v l, ∃ s : ByteArray, l.length ≤ 2 ∧ s.size ≤ 101 ∧ e = .returned (.tuple #[v, .string s]) ∧ Owns w' w.heap.size 5 v l ∧ Below w.heap.size w w' := by
  go_enter Tryd.func8, Tryd.ntmps8
  go_wp2_with fail
  refine (l1New_any A c code w h hn).mono ?_
  rintro e w1 ⟨g, rfl, hcur, hb1⟩
  have hgl := hcur.from_
  go_wp2_with fail
  refine (l1Below_any w.heap.size g A code.length c code 3 w1 hcur (by omega) (by omega) (by omega)).mono ?_
  rintro e w2 ⟨y, hy, rfl, hcur2, hg2⟩
  have hb2 : Below w.heap.size w w2 := hb1.grown hg2 hb1.size (fun k hk => by injection hk with hk; omega)
  go_wp2_with fail
  refine (l1Bytes_any w.heap.size g A code.length c code y w2 hcur2 (by omega) (by omega)).mono ?_
  rintro e w3 ⟨v, l, hl, rfl, hown, hcur3, hg3⟩
  have hb3 : Below w.heap.size w w3 := hb2.grown hg3 hb2.size (fun k hk => by injection hk with hk; omega)
  have hlen : l.length ≤ 2 := by omega
  have hglt := hcur2.lt
  have hne : v.ownBlock ≠ some g := fun e => by have := (hown.lt g e).1; omega
  have Hne := Lib.hid hne
  clear hl hne hg2 hg3 hcur hcur2 hb1
  go_wp2_with fail
  refine (l1Text_any w.heap.size g A code.length c code w3 hcur3 (by omega)).mono ?_
  rintro e w4 ⟨s, hs, rfl, hcur4, hg4⟩
  have hb4 : Below w.heap.size w w4 := hb3.grown hg4 hb3.size (fun k hk => by injection hk with hk; omega)
  have hown4 : Owns w4 w2.heap.size 5 v l := World.ownsRow.kept hown hg4 (.inr Hne.out)
  clear hown hg4 hcur3 hb3
  go_wp2_with fail
  go_ret2
  exact ⟨v, l, s, hlen, hs, rfl, ownsRow_mono hown4 hb2.size, hb4⟩

set_option maxHeartbeats 1000000 in
theorem drawNumText_any (A : Option Addr) (c : Nat) (code : List UInt8) (w : World) (h : Reads w w.heap.size 1 A code.length (bys code)) (hn : code.length ≤ 1048576) :
    Calls Tryd.prog 10 #[.slice A code.length c] w fun e w' => ∃ z : Int, -9223372036854775808 ≤ z ∧ z ≤ 9223372036854775807 ∧ e = .returned (.int .i64 z) ∧ Below w.heap.size w w' := by
  go_enter Tryd.func10, Tryd.ntmps10
  go_wp2_with fail
  refine (l1New_any A c code w h hn).mono ?_
  rintro e w1 ⟨g, rfl, hcur, hb1⟩
  have hgl := hcur.from_
  go_wp2_with fail
  refine (l1Once_any w.heap.size g A code.length c code 2 w1 hcur (by omega) (by omega) (by omega)).mono ?_
  rintro e w2 ⟨b, rfl, hcur2, hg2⟩
  have hb2 : Below w.heap.size w w2 := hb1.grown hg2 hb1.size (fun k hk => by injection hk with hk; omega)
  clear hg2 hcur hb1
  cases b
  · go_wp2_with fail
    refine (l1Below_any w.heap.size g A code.length c code 2000 w2 hcur2 (by omega) (by omega) (by omega)).mono ?_
    rintro e w3 ⟨z, hz, rfl, hcur3, hg3⟩
    have hb3 : Below w.heap.size w w3 := hb2.grown hg3 hb2.size (fun k hk => by injection hk with hk; omega)
    go_wp2_with fail
    go_ret
    exact ⟨(z : Int) - 1000, by omega, by omega, rfl, hb3⟩
  · go_wp2_with fail
    refine (l1Odd_any w.heap.size g A code.length c code w2 hcur2 (by omega)).mono ?_
    rintro e w3 ⟨z, hz1, hz2, rfl, hcur3, hg3⟩
    have hb3 : Below w.heap.size w w3 := hb2.grown hg3 hb2.size (fun k hk => by injection hk with hk; omega)
    have H1 := Lib.hid hz1
    have H2 := Lib.hid hz2
    clear hz1 hz2
    go_wp2_with fail
    go_ret
    exact ⟨z, H1.out, H2.out, rfl, hb3⟩

set_option maxHeartbeats 1000000 in
theorem drawParseNum_any (A : Option Addr) (c : Nat) (code : List UInt8) (w : World) (h : Reads w w.heap.size 1 A code.length (bys code)) (hn : code.length ≤ 1048576) :
    Calls Tryd.prog 13 #[.slice A code.length c] w fun e w' => ∃ s : ByteArray, ∃ z : Int, s.size ≤ 101 ∧ e = .returned (.tuple #[.string s, .int .i64 z]) ∧ Below w.heap.size w w' := by
  go_enter Tryd.func13, Tryd.ntmps13
  go_wp2_with fail
  refine (l1New_any A c code w h hn).mono ?_
  rintro e w1 ⟨g, rfl, hcur, hb1⟩
  have hgl := hcur.from_
  go_wp2_with fail
  refine (l1Int_any w.heap.size g w1.heap.size A code.length c code [9, 100, 65535, 65536, -1, 0] _ (hcur.alloc _) (by omega) (by decide) (by decide) (heap_alloc_new w1 _) (by have := hcur.lt; omega)).mono ?_
  rintro e w2 ⟨most, _, rfl, hcur2, hg2⟩
  have hb2 : Below w.heap.size w w2 := (hb1.alloc hb1.size _).grown hg2 (Nat.le_trans hb1.size (by simp)) (fun k hk => by injection hk with hk; omega)
  clear hg2 hcur hb1
  go_wp2_with fail
  refine (l1Once_any w.heap.size g A code.length c code 2 w2 hcur2 (by omega) (by omega) (by omega)).mono ?_
  rintro e w3 ⟨b, rfl, hcur3, hg3⟩
  have hb3 : Below w.heap.size w w3 := hb2.grown hg3 hb2.size (fun k hk => by injection hk with hk; omega)
  clear hg3 hcur2 hb2
  cases b
  · go_wp2_with fail
    refine (l1Below_any w.heap.size g A code.length c code 120 w3 hcur3 (by omega) (by omega) (by omega)).mono ?_
    rintro e w4 ⟨z, hz, rfl, hcur4, hg4⟩
    have hb4 : Below w.heap.size w w4 := hb3.grown hg4 hb3.size (fun k hk => by injection hk with hk; omega)
    go_wp2_with fail
    refine (numTextS_any (z : Int) (by omega) (by omega) w4).mono ?_
    have hsz : (⟨(Lib.itoa (z : Int)).toArray⟩ : ByteArray).size ≤ 101 := by
      show (Lib.itoa (z : Int)).toArray.size ≤ 101
      rw [List.size_toArray, Lib.itoa_nonneg]
      have := decDigits_le z (by omega)
      omega
    generalize (⟨(Lib.itoa (z : Int)).toArray⟩ : ByteArray) = s at hsz
    rintro e w5 ⟨rfl, hb5⟩
    have hW5 : Below w.heap.size w w5 := hb4.trans (hb5.mono hb4.size)
    go_wp2_with fail
    go_ret2
    exact ⟨s, most, hsz, rfl, hW5⟩
  · go_wp2_with fail
    refine (l1Str_any w.heap.size g w3.heap.size A code.length c code [⟨#[]⟩, ⟨#[48]⟩, ⟨#[48, 48]⟩, ⟨#[48, 49]⟩, ⟨#[57]⟩, ⟨#[49, 48]⟩, ⟨#[54, 53, 53, 51, 53]⟩, ⟨#[54, 53, 53, 51, 54]⟩, ⟨#[57, 57, 57, 57, 57]⟩, ⟨#[45, 49]⟩, ⟨#[32, 49]⟩, ⟨#[57, 97]⟩, ⟨#[49, 48, 48, 48, 48, 48]⟩] _ (hcur3.alloc _) (by omega) (by decide) (by decide) (heap_alloc_new w3 _) (by have := hcur3.lt; omega)).mono ?_
    rintro e w4 ⟨s, hs, rfl, hcur4, hg4⟩
    have hsz : s.size ≤ 101 := by
      simp only [List.mem_cons, List.not_mem_nil, or_false] at hs
      rcases hs with rfl | rfl | rfl | rfl | rfl | rfl | rfl | rfl | rfl | rfl | rfl | rfl | rfl <;> decide
    have HS := Lib.hid hsz
    have hW4 : Below w.heap.size w w4 := (hb3.alloc hb3.size _).grown hg4 (Nat.le_trans hb3.size (by simp)) (fun k hk => by injection hk with hk; omega)
    clear hs hsz
    go_wp2_with fail
    go_ret2
    exact ⟨s, most, HS.out, rfl, hW4⟩

end Go.Proofs.YtablcabmdkhccaaDoor
