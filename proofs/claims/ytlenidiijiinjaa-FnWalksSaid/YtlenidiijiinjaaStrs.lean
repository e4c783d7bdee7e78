/- Lists of texts: their cells; what the exact laws ask of them. -/
import Derived.Test.YtlenidiijiinjaaStr
import Derived.Test.YtlenidiijiinjaaLex
namespace Go.Proofs.Ytlenidiijiinjaa
open Go.RowKit
set_option linter.unusedVariables false

def strV (xs : List ByteArray) : List Value := xs.map .string
theorem strV_length (xs : List ByteArray) : (strV xs).length = xs.length := by simp [strV]
theorem strV_append (xs ys : List ByteArray) : strV (xs ++ ys) = strV xs ++ strV ys := by simp [strV]
theorem strV_get {xs : List ByteArray} {k : Nat} {x : ByteArray} (h : xs[k]? = some x) : (strV xs)[k]? = some (.string x) := by simp [strV, h]
theorem one_strV (xs : List ByteArray) : ∀ u ∈ strV xs, u.oneCell' = true := by
  intro u hu
  obtain ⟨x, _, rfl⟩ := List.mem_map.1 hu
  rfl

/-- A list of texts that lies in memory. -/
def StrAt (w : World) (A : Option Addr) (xs : List ByteArray) : Prop := Reads w w.heap.size 1 A xs.length (strV xs)
instance strAt_keeps (A : Option Addr) (xs : List ByteArray) : Keeps (fun w => StrAt w A xs) := ⟨fun h x => (Reads.below x h).more h.size⟩
theorem StrAt.elem {w : World} {A : Option Addr} {xs : List ByteArray} {k : Nat} (h : StrAt w A xs) (hk : k < xs.length) :
    ∃ b off x, A = some ⟨b, off, none⟩ ∧ b < w.heap.size ∧ xs[k]? = some x ∧ w.cell? ⟨b, off + k, none⟩ = some (.string x) := by
  obtain ⟨hl, hr⟩ := h
  obtain ⟨ad, hA, hb, hc⟩ := hr (by omega)
  obtain ⟨b, off, z⟩ := ad
  have hx := List.getElem?_eq_getElem hk
  have h0 := hc k _ (strV_get hx)
  have hp : (strV xs)[0]? = some _ := List.getElem?_eq_getElem (show 0 < (strV xs).length by rw [strV_length]; omega)
  have hsp : z = none := by simpa [Addr.add] using World.cell?_spot (hc 0 _ hp)
  subst hsp
  have ea : ∀ j, (⟨b, off, none⟩ : Addr).add j = ⟨b, off + j, none⟩ := fun j => by
    unfold Addr.add
    split <;> simp_all
  rw [ea] at h0
  exact ⟨b, off, _, hA, hb, hx, h0⟩

def strsR : Rep (List ByteArray) := Rep.rows 9 (strR markText)
theorem strs_at {w : World} {cs : List Value} {xs : List ByteArray} (h : strsR.at_ w w.heap.size cs xs) : ∃ A c, cs = [.slice A xs.length c] ∧ (xs.length ≤ c ∧ c ≤ maxLen) ∧ StrAt w A xs := by
  obtain ⟨A, c, rfl, hc, _, cells, hr, he⟩ := h
  have hl : cells.length = xs.length := by have := hr.1; rw [this]; exact Nat.mul_one _
  have e : cells = strV xs := by
    apply List.ext_getElem?
    intro i
    by_cases hi : i < xs.length
    · have hx := List.getElem?_eq_getElem hi
      have h1 : Rep.seg 1 i cells = [.string xs[i]] := he i _ hx
      have h2 := Rep.seg_get (size := 1) (i := i) (cells := cells) (j := 0) (by omega)
      rw [h1, Nat.mul_one, Nat.add_zero] at h2
      rw [strV_get hx, ← h2]
      rfl
    · rw [List.getElem?_eq_none (by omega), List.getElem?_eq_none (by rw [strV_length]; omega)]
  subst e
  exact ⟨A, c, rfl, hc, hr⟩
def OkStrs (xs : List ByteArray) : Prop := ∀ x, x ∈ xs → x.size ≤ maxLen
theorem strs_opens : Rep.Opens Try.prog 24 strsR OkStrs := Rep.Opens.rows (e' := 9) Try.underlying24 (by kernel_rfl) (by decide) (Rep.Opens.str markText Try.underlying9)

set_option maxHeartbeats 1000000 in
theorem szStrs_room (A : Option Addr) (c : Nat) (xs : List ByteArray) (left : Nat) (w : World) (h : StrAt w A xs) (hz : OkStrs xs) (hn : xs.length ≤ maxLen) (hl : left ≤ 1048576) :
    Calls Try.prog 26 #[.slice A xs.length c, .int .i64 left] w (Room (xs.length ≤ 1048576) left w) := by
  unfold maxLen at hn
  by_cases h1 : xs.length ≤ left
  · have h' : ¬ ((left : Int) - (xs.length : Int) < 0) := by omega
    obtain ⟨z0, hz0, hz1⟩ : ∃ z : Nat, (left : Int) - (xs.length : Int) = z ∧ z ≤ left := ⟨left - xs.length, by omega, by omega⟩
    have HZ := Lib.hid hz0
    have HO := Lib.hid hz
    clear hz0 hz
    go_enter Try.func26, Try.ntmps26
    go_wp2
    go_loop [1, 5] (fun q i => ∃ k z : Nat, k ≤ xs.length ∧ i = .int .i64 k ∧ z ≤ left ∧ q = .int .i64 z) (fun _ i => xs.length - (intOf i).toNat)
    case atStart => exact ⟨0, z0, by omega, rfl, hz1, by rw [HZ.out]⟩
    case round =>
      obtain ⟨k, z, hk, rfl, hz, rfl⟩ := hrel
      by_cases hlt : k < xs.length
      · obtain ⟨b, off, x, rfl, hbl, hx, hcell⟩ := h.elem hlt
        have hxl : x.size ≤ maxLen := HO.out x (List.mem_of_getElem? hx)
        unfold maxLen at hxl
        clear hx
        have i1 : (0 : Int) ≤ (k : Int) := by omega
        have i2 : (k : Int) < (xs.length : Int) := by omega
        by_cases h2 : x.size ≤ z
        · have h2' : ¬ ((z : Int) - (x.size : Int) < 0) := by omega
          go_wp2_with fail
          go_round
          case rel => exact ⟨k + 1, z - x.size, by omega, by go_num, by omega, by rw [Int.ofNat_sub h2]⟩
          case measure => simp [intOf]; omega
        · have h2' : (z : Int) - (x.size : Int) < 0 := by omega
          go_wp2_with fail
          go_ret
          exact ⟨.inr rfl, rfl⟩
      · have he : k = xs.length := by omega
        subst he
        go_wp2
        go_ret
        exact ⟨.inl ⟨z, hz, by omega, rfl⟩, rfl⟩
  · go_enter Try.func26, Try.ntmps26
    go_wp2
    go_ret
    exact ⟨.inr rfl, rfl⟩

theorem Try.infoStrs : (Try.prog.info? 9).map (fun i => (i.zero, i.size, i.bytes)) = some (some (.string ⟨#[]⟩), 1, 16) := by kernel_rfl
theorem strV_zeros (n : Nat) : strV (List.replicate n ⟨#[]⟩) = (madeCells (Value.string ⟨#[]⟩).cells (n * 1)).toList := by
  rw [Nat.mul_one]
  have : (Value.string ⟨#[]⟩).cells = #[Value.string ⟨#[]⟩] := rfl
  rw [this, toList_madeCells_one]
  simp [strV]

/-- Texts come back in a row of the call's own. -/
def RetStrs (w : World) (xs : List ByteArray) (e : Ending) (w' : World) : Prop := ∃ A c, e = .returned (.slice A xs.length c) ∧ w'.ownsRow w.heap.size 9 1 (.slice A xs.length c) xs.length (strV xs) ∧ Below w.heap.size w w'
theorem strs_own_at {w : World} {base : Nat} {A : Option Addr} {c : Nat} {xs : List ByteArray} (h : w.ownsRow base 9 1 (.slice A xs.length c) xs.length (strV xs)) : StrAt w A xs := Reads.of_own h

set_option maxHeartbeats 1000000 in
theorem toStrs_any (A : Option Addr) (c : Nat) (xs : List ByteArray) (w : World) (h : StrAt w A xs) (hn : xs.length ≤ 1048576) :
    Calls Try.prog 27 #[.slice A xs.length c] w (RetStrs w xs) := by
  obtain ⟨i0, hi0, hz0, hz1, hz2⟩ := info_parts Try.infoStrs
  go_enter Try.func27, Try.ntmps27
  go_wp2_with (at_make; refine wpList_make_full _ rfl _ _ _ rfl w.heap.size 9 i0 _ 1 Try.underlying24 hi0 hz0 hz1 _ _ _ _ xs.length rfl rfl rfl rfl (by rw [hz2]; omega) (by simp only [maxLen]; omega) (Nat.le_refl _) ?_; intro w1 hown1 hg1)
  have hb1 : Below w.heap.size w w1 := (Below.refl _ _).grown hg1 (Nat.le_refl _) (fun _ hk => by cases hk)
  have hh : (madeCells (Value.string ⟨#[]⟩).cells (xs.length * 1)).toList = strV (halfL ⟨#[]⟩ xs 0) := by rw [halfL_zero, strV_zeros]
  rw [hh] at hown1
  clear hh
  go_loopw [4] (fun i wr => ∃ k : Nat, k ≤ xs.length ∧ i = .int .i64 k ∧ Below w.heap.size w wr ∧ wr.ownsRow w.heap.size 9 1 (.slice (some ⟨w.heap.size, 0, none⟩) xs.length xs.length) xs.length (strV (halfL ⟨#[]⟩ xs k))) (fun i _ => xs.length - (intOf i).toNat)
  case atStart => exact ⟨0, by omega, rfl, hb1, hown1⟩
  case round =>
    obtain ⟨k, hk, rfl, hb, hown⟩ := hrel
    clear hown1 hg1 hb1
    by_cases hlt : k < xs.length
    · obtain ⟨b, off, x, rfl, hbl, hx, hcell0⟩ := h.elem hlt
      have hcell : wr.cell? ⟨b, off + k, none⟩ = some (.string x) := (hb.cell (p := ⟨b, off + k, none⟩) hbl).trans hcell0
      have hdst : ∃ u, wr.cell? ⟨w.heap.size, k, none⟩ = some u := by
        rw [hown.cellAt k (by omega), List.getElem?_eq_getElem (by rw [strV_length, halfL_length _ _ _ hk]; omega)]
        exact ⟨_, rfl⟩
      obtain ⟨u, hdst⟩ := hdst
      have hfr := hown.frozenAt k
      clear hcell0
      go_wp2
      go_roundw
      case rel =>
        have hst := hown.stored k (.string x)
        have e : (strV (halfL ⟨#[]⟩ xs k)).set k (.string x) = strV (halfL ⟨#[]⟩ xs (k + 1)) := by rw [← halfL_set ⟨#[]⟩ hx]; simp [strV]
        rw [e] at hst
        exact ⟨k + 1, by omega, by go_num, hb.setCell (by exact Nat.le_refl _) _, hst.1⟩
      case measure => simp [intOf]; omega
    · have he : k = xs.length := by omega
      subst he
      rw [halfL_all] at hown
      go_wp2
      go_ret
      exact ⟨_, _, rfl, hown, hb⟩

set_option maxHeartbeats 1000000 in
theorem eqStrs_same (A B : Option Addr) (c d : Nat) (xs : List ByteArray) (w : World) (h : StrAt w A xs) (h' : StrAt w B xs) (hn : xs.length ≤ 1048576) :
    Calls Try.prog 28 #[.slice A xs.length c, .slice B xs.length d] w fun e w' => e = .returned (.bool true) ∧ Below w.heap.size w w' := by
  have hnn : ((xs.length : Int) != (xs.length : Int)) = false := by simp
  have S : All (fun w' => Below w.heap.size w w' ∧ StrAt w' A xs ∧ StrAt w' B xs) w := ⟨Below.refl _ _, h, h'⟩
  clear h h'
  go_enter Try.func28, Try.ntmps28
  go_wp2
  go_loopw [5] (fun i wr => ∃ k : Nat, k ≤ xs.length ∧ i = .int .i64 k ∧ All (fun w' => Below w.heap.size w w' ∧ StrAt w' A xs ∧ StrAt w' B xs) wr) (fun i _ => xs.length - (intOf i).toNat)
  case atStart => exact ⟨0, by omega, rfl, S⟩
  case round =>
    obtain ⟨k, hk, rfl, S2⟩ := hrel
    clear S
    by_cases hlt : k < xs.length
    · obtain ⟨b, off, x, rfl, hbl, hx, c0⟩ := S2.out.2.1.elem hlt
      obtain ⟨b', off', x', rfl, hbl', hx', c0'⟩ := S2.out.2.2.elem hlt
      obtain rfl : x = x' := by rw [hx] at hx'; injection hx'
      clear hx hx'
      have i1 : (0 : Int) ≤ (k : Int) := by omega
      have i2 : (k : Int) < (xs.length : Int) := by omega
      have q : (x.toList != x.toList) = false := by simp
      go_wp2
      go_quiet (fail)
      go_wp2
      go_roundw
      case rel => exact ⟨k + 1, by omega, by go_num, S2.later (belowD (Below.refl _ _) _)⟩
      case measure => simp [intOf]; omega
    · have he : k = xs.length := by omega
      subst he
      go_wp2
      go_ret
      exact ⟨rfl, S2.out.1⟩

end Go.Proofs.Ytlenidiijiinjaa
