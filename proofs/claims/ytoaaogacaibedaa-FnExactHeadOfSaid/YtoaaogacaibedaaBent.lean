/- Contract of the byte that FnSums turns; a turned byte turns the checksum. -/
import Derived.Test.YtoaaogacaibedaaDrawSum
import Derived.Test.YtoaaogacaibedaaShut
import Derived.Deep.RegionWith
import Derived.Laws.BitsAllLaws
namespace Go.Proofs.Ytoaaogacaibedaa
open Go.RowKit

/-- One byte of l is another one in l'. -/
def Turned (l l' : List UInt8) : Prop := ∃ (i : Nat) (b b' : UInt8), l[i]? = some b ∧ b' ≠ b ∧ l' = l.set i b'

theorem xor_ne {a b : Nat} (hb : b ≠ 0) : a ^^^ b ≠ a := by
  intro h
  have h2 : a ^^^ (a ^^^ b) = a ^^^ a := by rw [h]
  rw [← Nat.xor_assoc, Nat.xor_self, Nat.zero_xor] at h2
  exact hb h2

/-- The byte b with some bit of it turned. -/
def turnB (b : UInt8) (z : Nat) : UInt8 := UInt8.ofNat (b.toNat ^^^ (1 + z % 255))
theorem turn_lt (b : UInt8) (z : Nat) : b.toNat ^^^ (1 + z % 255) < 256 := by
  have hb : b.toNat < 256 := b.toNat_lt
  have : b.toNat ^^^ (1 + z % 255) < 2 ^ 8 := Nat.xor_lt_two_pow (by omega) (by omega)
  omega
theorem turn_toNat (b : UInt8) (z : Nat) : (turnB b z).toNat = b.toNat ^^^ (1 + z % 255) := by
  have := turn_lt b z
  unfold turnB
  rw [UInt8.toNat_ofNat', Nat.mod_eq_of_lt this]
theorem turn_ne (b : UInt8) (z : Nat) : turnB b z ≠ b := by
  intro e
  have h := congrArg UInt8.toNat e
  rw [turn_toNat] at h
  exact xor_ne (by omega) h
theorem turn_val (b : UInt8) (z : Nat) : bits .xor .u8 (b.toNat : Int) (IntKind.u8.wrap (IntKind.i64.wrap (1 + (z : Int).tmod 255))) = (((turnB b z).toNat : Nat) : Int) := by
  have hb : b.toNat < 256 := b.toNat_lt
  have e1 : (1 + (z : Int).tmod 255) = ((1 + z % 255 : Nat) : Int) := by rw [Int.tmod_eq_emod_of_nonneg (by omega)]; omega
  have e2 : IntKind.i64.wrap ((1 + z % 255 : Nat) : Int) = ((1 + z % 255 : Nat) : Int) := Lib.wrap_i64_small _ (by omega)
  have e3 : IntKind.u8.wrap ((1 + z % 255 : Nat) : Int) = ((1 + z % 255 : Nat) : Int) := by rw [IntKind.wrap_u8']; omega
  rw [e1, e2, e3, u8_xor_nat _ _ hb (by omega), turn_toNat]
theorem turn_set {l : List UInt8} {p : Nat} {b b' : UInt8} (_h : l[p]? = some b) : (bys l).set p (.int .u8 ((b'.toNat : Nat) : Int)) = bys (l.set p b') := by simp [bys, List.map_set]

set_option maxHeartbeats 1000000 in
theorem bent_any (A B : Option Addr) (c d : Nat) (code l : List UInt8) (w : World) (h : Reads w w.heap.size 1 A code.length (bys code)) (h' : Reads w w.heap.size 1 B l.length (bys l)) (hn : code.length ≤ 1048576) (hl : l.length ≤ 1000) (hl0 : 0 < l.length) :
    Calls Try.prog 14 #[.slice A code.length c, .slice B l.length d] w fun e w' => ∃ v l', e = .returned v ∧ Turned l l' ∧ Owns w' w.heap.size 5 v l' ∧ Below w.heap.size w w' := by
  obtain ⟨i0, hi0, hz0, hz1, hz2⟩ := info_parts Try.info8
  have hb0 : Below w.heap.size w (w.alloc (.cells #[] 5)) := (Below.refl _ _).alloc (Nat.le_refl _) _
  have hown0 : (w.alloc (.cells #[] 5)).ownsRow w.heap.size 5 1 (.slice (some ⟨w.heap.size, 0, none⟩) 0 0) 0 [] := World.ownsRow_lit w #[] 0 (Nat.le_refl _) (by simp) rfl
  go_enter Try.func14, Try.ntmps14
  go_wp2_with (first
     | (at_builtin
        refine wpList_append_any _ rfl (.tmp 7) (.tmp 8) _ rfl w.heap.size 5 i0 _ 1 1 Try.underlying22 hi0 hz0 hz1 hz2 rfl (by omega) _ 0 [] rfl hown0 w.heap.size B l.length d (bys l) rfl (h'.below hb0) (bys_one l) (by simp only [maxLen]; omega) (by omega) hb0.size ?_
        intro v2 w2 hown2 hg2 hat2
        have hb2 : Below w.heap.size w w2 := hb0.grown hg2 hb0.size (fun k hk => (hown0.lt k hk).1)
        clear hown0 hg2 hat2
        have hown3 : Owns w2 w.heap.size 5 v2 l := by simpa [Owns] using hown2
        clear hown2
        obtain ⟨A2, c2, rfl, _, _, _, hA2⟩ := hown3.shape)
     | fail)
  obtain ⟨g, rfl, hgb, hgs⟩ : ∃ g, A2 = some ⟨g, 0, none⟩ ∧ w.heap.size ≤ g ∧ g < w2.heap.size := by
    obtain ⟨ad, hA, _⟩ := (hown3.reads).2 hl0
    obtain ⟨g, hg, h1, h2⟩ := hA2 ad hA
    exact ⟨g, by rw [hA, hg], h1, h2⟩
  clear hA2
  refine (at_any A c 2 code w2 ((h.below hb2).more hb2.size) hn (by omega)).mono ?_
  rintro e w3 ⟨x, hx, rfl, rfl⟩
  go_wp2_with fail
  refine (at_any A c 3 code w2 ((h.below hb2).more hb2.size) hn (by omega)).mono ?_
  rintro e w3 ⟨y, hy, rfl, rfl⟩
  have hlne : ((l.length : Int) == 0) = false := by rw [beq_eq_false_iff_ne]; omega
  have hli : (0 : Int) < (l.length : Int) := by omega
  go_wp2_with fail
  have hp : ((x : Int) * 256 + (y : Int)) % (l.length : Int) = (((x * 256 + y) % l.length : Nat) : Int) := by rw [Int.natCast_emod]; rfl
  have hpl : (x * 256 + y) % l.length < l.length := Nat.mod_lt _ hl0
  generalize (x * 256 + y) % l.length = p at hp hpl
  rw [hp]
  clear hp hx hy
  have hlp : l[p]? = some l[p] := List.getElem?_eq_getElem hpl
  have hcell : w2.cell? ⟨g, p, none⟩ = some (.int .u8 ((l[p]).toNat : Int)) := (hown3.cellAt p (by omega)).trans (bys_get hlp)
  have hfr := hown3.frozenAt p
  have hb256 : (l[p]).toNat < 256 := (l[p]).toNat_lt
  have HLP := Lib.hid hlp
  have hra := (h.below hb2).more hb2.size
  have i1 : (0 : Int) ≤ (p : Int) := by omega
  have i2 : (p : Int) < (l.length : Int) := by omega
  clear hlp
  go_region_with (go_at_call 39; refine (at_any A c 4 code _ (by exact hra) hn (by omega)).mono ?_; rintro e w' ⟨z, hz, rfl, rfl⟩)
  all_goals go_wp2
  all_goals go_ret
  all_goals
    have hst := hown3.stored p (.int .u8 (bits .xor .u8 ((l[p]).toNat : Int) (IntKind.u8.wrap (IntKind.i64.wrap (1 + (z : Int).tmod 255)))))
    rw [turn_val l[p] z, turn_set HLP.out] at hst
    refine ⟨_, l.set p (turnB l[p] z), rfl, ⟨p, l[p], turnB l[p] z, HLP.out, turn_ne _ _, rfl⟩, ?_, ?_⟩
    · rw [turn_val l[p] z]
      unfold Owns
      rw [List.length_set]
      exact hst.1
    · exact (below_drewN hb2 1).setCell (p := ⟨g, p, none⟩) hgb _

end Go.Proofs.Ytoaaogacaibedaa
