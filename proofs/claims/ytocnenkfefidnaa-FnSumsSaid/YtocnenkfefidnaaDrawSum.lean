/- Contracts of what FnSums draws, and of a byte that is turned. -/
import Derived.Test.YtocnenkfefidnaaDraw
import Derived.Test.YtocnenkfefidnaaHelp
import Derived.Test.YtocnenkfefidnaaSum
namespace Go.Proofs.Ytocnenkfefidnaa
open Go.RowKit

theorem l1Size_any (A : Option Addr) (n c most : Nat) (w : World) (hn : n ≤ 1048576) (hm : 3 ≤ most) (hm1 : most ≤ 1000000) :
    Calls Try.prog 32 #[.slice A n c, .int .i64 most] w fun e w' => ∃ x : Nat, 3 ≤ x ∧ x ≤ most ∧ e = .returned (.int .i64 x) ∧ w = w' := by
  by_cases h : (most : Int) < 3 + (n : Int) / 12
  · go_enter Try.func32, Try.ntmps32
    go_wp2
    go_ret
    exact ⟨most, hm, by omega, rfl, rfl⟩
  · go_enter Try.func32, Try.ntmps32
    go_wp2
    go_ret
    exact ⟨3 + n / 12, by omega, by omega, rfl, rfl⟩

set_option maxHeartbeats 400000 in
theorem drawSum_any (A : Option Addr) (c : Nat) (code : List UInt8) (w : World) (h : Reads w w.heap.size 1 A code.length (bys code)) (hn : code.length ≤ 1048576) :
    Calls Try.prog 11 #[.slice A code.length c] w fun e w' => ∃ v l, e = .returned v ∧ Owns w' w.heap.size 5 v l ∧ l.length ≤ 40 ∧ Below w.heap.size w w' := by
  go_enter Try.func11, Try.ntmps11
  go_wp2_with fail
  refine (l1New_any A c code w h hn).mono ?_
  rintro e w1 ⟨g, rfl, hcur, hb1⟩
  have hgl := hcur.from_
  go_wp2_with fail
  refine (l1Size_any A code.length c 40 w1 hn (by omega) (by omega)).mono ?_
  rintro e w2 ⟨x, hx1, hx2, rfl, rfl⟩
  go_wp2_with fail
  refine (l1Below_any w.heap.size g A code.length c code x w1 hcur (by omega) (by omega) (by omega)).mono ?_
  rintro e w2 ⟨y, hy, rfl, hcur2, hg2⟩
  have hb2 : Below w.heap.size w w2 := hb1.grown hg2 hb1.size (fun k hk => by injection hk with hk; omega)
  go_wp2_with fail
  refine (l1Bytes_any w.heap.size g A code.length c code y w2 hcur2 (by omega) (by omega)).mono ?_
  rintro e w3 ⟨v, l, hl, rfl, hown, hcur3, hg3⟩
  have hb3 : Below w.heap.size w w3 := hb2.grown hg3 hb2.size (fun k hk => by injection hk with hk; omega)
  have hlen : l.length ≤ 40 := by omega
  clear hl
  go_wp2_with fail
  go_ret
  exact ⟨v, l, rfl, ownsRow_mono hown hb2.size, hlen, hb3⟩

set_option maxHeartbeats 400000 in
/-- A byte of the code, or a number that follows from its place. -/
theorem at_any (A : Option Addr) (c : Nat) (i : Nat) (code : List UInt8) (w : World) (h : Reads w w.heap.size 1 A code.length (bys code)) (hn : code.length ≤ 1048576) (hi : i ≤ 1000) :
    Calls Try.prog 33 #[.slice A code.length c, .int .i64 i] w fun e w' => ∃ x : Nat, x < 256 ∧ e = .returned (.int .i64 x) ∧ w = w' := by
  by_cases hlt : (i : Int) < code.length
  · obtain ⟨b, off, u, rfl, _, _, hcell⟩ := h.byte (k := i) (by omega)
    have hu : u.toNat < 256 := u.toNat_lt
    go_enter Try.func33, Try.ntmps33
    go_wp2
    go_ret
    exact ⟨u.toNat, hu, rfl, rfl⟩
  · go_enter Try.func33, Try.ntmps33
    go_wp2
    go_ret
    exact ⟨(i * 31 + code.length * 7) % 256, by omega, by go_num, rfl⟩

end Go.Proofs.Ytocnenkfefidnaa
