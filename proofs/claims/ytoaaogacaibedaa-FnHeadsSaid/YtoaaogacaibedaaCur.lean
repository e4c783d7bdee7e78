/- A cursor, while memory grows; an int of a list. -/
import Derived.Test.YtoaaogacaibedaaRepMore
import Derived.Test.YtoaaogacaibedaaDrawMore
namespace Go.Proofs.Ytoaaogacaibedaa
open Go.RowKit
set_option linter.unusedVariables false

theorem Cur.only {w w' : World} {lo g : Nat} {A : Option Addr} {n c : Nat} {code : List UInt8} (h : Cur w lo g A n c code) {fp : List Nat} (ho : Rep.Only w w' fp) (hg : g ∉ fp) (hf : ∀ a, a ∈ fp → lo ≤ a) : Cur w' lo g A n c code := by
  have hlt := h.lt
  obtain ⟨hlo, hrd, i, hh, hi, h1, h2, hb⟩ := h
  refine ⟨hlo, hrd.keep fun p hp => World.cell?_of_block (ho.block p.block (by omega) (fun e => by have := hf _ e; omega)), i, hh, hi, h1, h2, ?_⟩
  rw [ho.block g hlt hg]
  exact hb
theorem Cur.drew {w : World} {lo g : Nat} {A : Option Addr} {n c : Nat} {code : List UInt8} (h : Cur w lo g A n c code) : Cur w.drew lo g A n c code := h.only (Rep.only_drew w) (by simp) (fun a ha => by cases ha)
theorem only_g {w w' : World} {g : Nat} (h : w.grownBy w' (some g)) : Rep.Only w w' [g] := Rep.Only.of_grown h (fun a ha => by injection ha with ha; simp [ha])

/-- An int of a list that has just been made. -/
def RetInt (w : World) (lo g : Nat) (A : Option Addr) (n c : Nat) (code : List UInt8) (zs : List Int) (e : Ending) (w' : World) : Prop :=
  ∃ z, z ∈ zs ∧ e = .returned (.int .i64 z) ∧ Cur w' lo g A n c code ∧ Rep.Only w w' [g]

theorem draw_int (lo g : Nat) (A : Option Addr) (n c : Nat) (code : List UInt8) (zs : List Int) (w : World) (h : Cur w lo g A n c code) (hn : n ≤ 140737488351232) (hz0 : 0 < zs.length) (hz : zs.length ≤ 1000) :
    Calls Try.prog 26 #[.pointer (some ⟨g, 0, none⟩), .slice (some ⟨w.heap.size, 0, none⟩) zs.length zs.length] (w.alloc (.cells (zs.map (Value.int .i64)).toArray 3)) (RetInt w lo g A n c code zs) := by
  refine (l1Int_any lo g w.heap.size A n c code zs _ (h.only (Rep.only_alloc w _) (by simp) (fun a ha => by cases ha)) hn hz0 hz (heap_alloc_new w _) (by have := h.lt; omega)).mono ?_
  rintro e w' ⟨z, hm, rfl, hc, hg⟩
  exact ⟨z, hm, rfl, hc, ((Rep.only_alloc w _).mono (by simp) : Rep.Only w _ [g]).trans (only_g hg)⟩

/-- A string of a list that has just been made. -/
def RetStr (w : World) (lo g : Nat) (A : Option Addr) (n c : Nat) (code : List UInt8) (ss : List ByteArray) (e : Ending) (w' : World) : Prop :=
  ∃ z, z ∈ ss ∧ e = .returned (.string z) ∧ Cur w' lo g A n c code ∧ Rep.Only w w' [g]

end Go.Proofs.Ytoaaogacaibedaa
