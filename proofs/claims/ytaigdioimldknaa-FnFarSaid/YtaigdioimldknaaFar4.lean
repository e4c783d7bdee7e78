/- What the theorem needs, out of many texts. -/
import Derived.Test.YtaigdioimldknaaFar3
namespace Go.Proofs.Ytaigdioimldknaa
open Go.RowKit
set_option linter.unusedVariables false
/-- 's[lo:]' of a slice of bytes. -/
theorem slice_readsF {P : Program} {t e : TypeId} {i : TypeInfo} (ht : P.underlying t = some (.slice e)) (hi : P.info? e = some i) (hs : i.size = 1)
    {A : Option Addr} {n c lo : Nat} (k : IntKind) (h1 : lo ≤ n) (h3 : n ≤ c) :
    ∃ A', (∀ w, (Instr.slice t (.slice A n c) (some (.int k (lo : Int))) none none).run P w = .ok (.slice A' (n - lo) (c - lo)) w) ∧
      ∀ {w : World} {B : Nat} {l : List UInt8}, Reads w B 1 A n (bys l) → Reads w B 1 A' (n - lo) (bys (l.drop lo)) := by
  refine ⟨if c = lo then A else A.map (·.add lo), fun w => ?_, fun {w B l} hr => ?_⟩
  · have a3 : (0 : Int) ≤ lo := by omega
    have hz := sizeOf_run (P := P) (e := e) w hi
    simp [Instr.slice, run_underlying ht, Instr.sliceBounds, Instr.sliceBound, asIntOf, h1, hz, hs, go_sem]
  · have hc := hr.cut (k := lo) (cap := c) (by omega) h3
    simp only [Nat.mul_one] at hc
    rw [show bys (l.drop lo) = (bys l).drop lo by simp [bys, List.map_drop]]
    exact hc
def gK (l : List UInt8) : Int := ((l.getD 0 0).toNat : Int)
def gL (l : List UInt8) : Nat := (l.getD 1 0).toNat
def waitF : Fr × Int × Int := (zeroFr, 0, 1)
def badF : Fr × Int × Int := (zeroFr, 0, 2)
def txF (l : List UInt8) : Fr := ⟨gK l, ⟨((l.drop 2).take (gL l)).toArray⟩, 0⟩
def getF (l : List UInt8) : Fr × Int × Int :=
  if l.length = 0 then waitF
  else if gK l < 1 ∨ 6 < gK l then badF
  else if gK l = 3 then (⟨3, ⟨#[]⟩, 0⟩, 1, 0)
  else if l.length = 1 then waitF
  else if gK l = 5 then (if gL l ≤ 2 then (⟨5, ⟨#[]⟩, (gL l : Int)⟩, 2, 0) else badF)
  else if 100 < gL l then badF
  else if l.length < 2 + gL l then waitF
  else if frB (txF l) = true then (txF l, 2 + (gL l : Int), 0) else badF
def RetGetF (w : World) (p : Fr × Int × Int) (e : Ending) (w' : World) : Prop := e = .returned (.tuple #[.agg (frC p.1).toArray, .int .i64 p.2.1, .int .i64 p.2.2]) ∧ Below w.heap.size w w'
theorem getF_nil {l : List UInt8} (h : l.length = 0) : getF l = waitF := if_pos h
theorem getF_out {l : List UInt8} (h : l.length ≠ 0) (hk : gK l < 1 ∨ 6 < gK l) : getF l = badF := by
  unfold getF; rw [if_neg h, if_pos hk]
theorem getF_3 {l : List UInt8} (h : l.length ≠ 0) (hk : gK l = 3) : getF l = (⟨3, ⟨#[]⟩, 0⟩, 1, 0) := by
  unfold getF; rw [if_neg h, if_neg (by omega), if_pos hk]
theorem getF_1 {l : List UInt8} (h : l.length = 1) (hk : 1 ≤ gK l ∧ gK l ≤ 6) (h3 : gK l ≠ 3) : getF l = waitF := by
  unfold getF; rw [if_neg (by omega), if_neg (by omega), if_neg h3, if_pos h]
theorem getF_5 {l : List UInt8} (h : 2 ≤ l.length) (hk : gK l = 5) : getF l = (if gL l ≤ 2 then (⟨5, ⟨#[]⟩, (gL l : Int)⟩, 2, 0) else badF) := by
  unfold getF; rw [if_neg (by omega), if_neg (by omega), if_neg (by omega), if_neg (by omega), if_pos hk]
theorem getF_t {l : List UInt8} (h : 2 ≤ l.length) (hk : 1 ≤ gK l ∧ gK l ≤ 6) (h3 : gK l ≠ 3) (h5 : gK l ≠ 5) : getF l = (if 100 < gL l then badF else if l.length < 2 + gL l then waitF else if frB (txF l) = true then (txF l, 2 + (gL l : Int), 0) else badF) := by
  unfold getF; rw [if_neg (by omega), if_neg (by omega), if_neg h3, if_neg (by omega), if_neg h5]
/-- The bytes that the readers look at. -/
theorem Reads.first {w : World} {B : Nat} {A : Option Addr} {l : List UInt8} (h : Reads w B 1 A l.length (bys l)) (hl : l.length ≠ 0) :
    ∃ b off, A = some ⟨b, off, none⟩ ∧ b < B ∧ w.cell? ⟨b, off, none⟩ = some (.int .u8 (gK l)) := by
  obtain ⟨b, off, u, hA, hb, hu, hc⟩ := h.byte (k := 0) (by omega)
  refine ⟨b, off, hA, hb, ?_⟩
  have : gK l = (u.toNat : Int) := by unfold gK; simp [List.getD, hu]
  rw [this]
  exact hc
theorem Reads.second {w : World} {B : Nat} {b off : Nat} {l : List UInt8} (h : Reads w B 1 (some ⟨b, off, none⟩) l.length (bys l)) (hl : 2 ≤ l.length) :
    w.cell? ⟨b, off + 1, none⟩ = some (.int .u8 (gL l : Int)) := by
  obtain ⟨b', off', u, hA, hb, hu, hc⟩ := h.byte (k := 1) (by omega)
  injection hA with hA
  injection hA with h1 h2
  subst h1 h2
  have : (gL l : Int) = (u.toNat : Int) := by unfold gL; simp [List.getD, hu]
  rw [this]
  exact hc
theorem gK_byte (l : List UInt8) : 0 ≤ gK l ∧ gK l ≤ 255 := by
  unfold gK
  have := byte_lt (l.getD 0 0)
  omega
theorem gL_byte (l : List UInt8) : gL l ≤ 255 := by
  unfold gL
  have := byte_lt (l.getD 1 0)
  omega
theorem tx_size (l : List UInt8) : (⟨((l.drop 2).take (gL l)).toArray⟩ : ByteArray).size ≤ 255 := by
  show (((l.drop 2).take (gL l)).toArray).size ≤ 255
  rw [List.size_toArray, List.length_take]
  have := gL_byte l
  omega
theorem put3_below {w W1 : World} (h : Below w.heap.size w W1) (a b c : Value) : Below w.heap.size w (((W1.setCell ⟨w.heap.size, 0, none⟩ a).setCell ⟨w.heap.size, 1, none⟩ b).setCell ⟨w.heap.size, 2, none⟩ c) :=
  ((h.setCell (Nat.le_refl _) _).setCell (Nat.le_refl _) _).setCell (Nat.le_refl _) _
/-- The result's box, still zero, and behind it the variable that holds a frame. -/
structure GF (w : World) (f : Fr) (w' : World) : Prop where
  below : Below w.heap.size w w'
  res : w'.heap[w.heap.size]? = some (.cells (frC ⟨0, ⟨#[]⟩, 0⟩).toArray 33 (0, 0))
  var : w'.heap[w.heap.size + 1]? = some (.cells (frC f).toArray 33 (0, 0))
instance GF.keeps (w : World) (f : Fr) : Keeps (GF w f) := ⟨fun h x => ⟨Later.trans x.below h, Keeps.keeps (F := fun w' => w'.heap[w.heap.size]? = some (.cells (frC ⟨0, ⟨#[]⟩, 0⟩).toArray 33 (0, 0))) h x.res, Keeps.keeps (F := fun w' => w'.heap[w.heap.size + 1]? = some (.cells (frC f).toArray 33 (0, 0))) h x.var⟩⟩
theorem GF.start (w : World) (f : Fr) : GF w f ((w.alloc (.cells #[.int .i64 0, .string ⟨#[]⟩, .int .i64 0] 33)).alloc (.cells (frC f).toArray 33)) :=
  ⟨Later.trans (Later.alloc w _) (Later.alloc _ _), Keeps.keeps (F := fun w' => w'.heap[w.heap.size]? = some (.cells #[.int .i64 0, .string ⟨#[]⟩, .int .i64 0] 33 (0, 0))) (Later.alloc _ _) (heap_alloc_new w _), heap_alloc_new' _ _ (by simp)⟩
theorem GF.set {w w1 : World} {f : Fr} (h : GF w f w1) (i : Nat) (u : Value) (f' : Fr) (hr : (frC f).toArray.setIfInBounds i u = (frC f').toArray) : GF w f' (w1.setCell ⟨w.heap.size + 1, i, none⟩ u) :=
  ⟨h.below.setCell (Nat.le_succ _) _, (heap_setCell_other _ _ _ _ (by simp)).trans h.res, hr ▸ var_set h.var i u⟩
set_option maxRecDepth 10000 in
set_option maxHeartbeats 8000000 in
theorem getFrameS_any (A : Option Addr) (c : Nat) (l : List UInt8) (w : World) (h : Reads w w.heap.size 1 A l.length (bys l)) (hn : l.length ≤ 100000000) (hcap : l.length ≤ c) :
    Calls Try.prog 81 #[.slice A l.length c] w (RetGetF w (getF l)) := by
  obtain ⟨i0, hi0, hz0, hz1, hz2⟩ := info_parts Try.info8
  unfold RetGetF
  by_cases h0 : l.length = 0
  · rw [getF_nil h0]
    have t0 : ((l.length : Int) == 0) = true := beq_iff_eq.2 (by omega)
    clear h0
    go_enter Try.func81, Try.ntmps81
    go_wp2_with fail
    go_returns
    exact ⟨rfl, Later.alloc w _⟩
  have t0 : ((l.length : Int) == 0) = false := beq_eq_false_iff_ne.2 (by omega)
  have i0' : (0 : Int) < (l.length : Int) := by omega
  obtain ⟨b, off, rfl, hbw, c0⟩ := h.first h0
  obtain ⟨g0, g1⟩ := gK_byte l
  have hl2 := gL_byte l
  by_cases hk : gK l < 1 ∨ 6 < gK l
  · rw [getF_out h0 hk]
    have HI := Lib.hid (show inI (gK l) 1 6 = false from decide_eq_false (by omega))
    generalize gK l = k at *
    clear hk h
    go_enter Try.func81, Try.ntmps81
    go_wp2_with fail
    refine (l1In_b HI.out _).mono ?_
    rintro e w' ⟨rfl, rfl⟩
    go_wp2_with fail
    go_returns
    exact ⟨rfl, by go_grown⟩
  have h1 : 1 ≤ gK l ∧ gK l ≤ 6 := by omega
  have HI := Lib.hid (show inI (gK l) 1 6 = true from decide_eq_true h1)
  by_cases hk3 : gK l = 3
  · rw [getF_3 h0 hk3]
    rw [hk3] at c0 HI
    have S : All (GF w ⟨3, ⟨#[]⟩, 0⟩) ((w.alloc (.cells #[.int .i64 0, .string ⟨#[]⟩, .int .i64 0] 33)).alloc (.cells #[.int .i64 3, .string ⟨#[]⟩, .int .i64 0] 33)) := ⟨GF.start w _⟩
    have HF := Lib.hid (show frB ⟨3, ⟨#[]⟩, 0⟩ = true from rfl)
    clear hk3 h hk h1
    go_enter Try.func81, Try.ntmps81
    go_wp2_with fail
    refine (l1In_b HI.out _).mono ?_
    rintro e w' ⟨rfl, rfl⟩
    go_wp2_with fail
    generalize ((w.alloc (.cells #[.int .i64 0, .string ⟨#[]⟩, .int .i64 0] 33)).alloc (.cells #[.int .i64 3, .string ⟨#[]⟩, .int .i64 0] 33)) = W at S ⊢
    refine (frameOkS_any ⟨3, ⟨#[]⟩, 0⟩ W (by show 0 ≤ 1048576; decide)).mono ?_
    rw [HF.out]
    rintro e W1 ⟨rfl, hb⟩
    replace S := S.later hb
    obtain ⟨z0, z1, z2⟩ := fr_box S.out.res
    obtain ⟨d0, d1, d2⟩ := fr_box S.out.var
    have q0 := var_frozen S.out.res 0
    have q1 := var_frozen S.out.res 1
    have q2 := var_frozen S.out.res 2
    have hfin := S.out.below
    clear hb S
    go_wp2_with fail
    exact bodyPost_ret (v := .tuple #[.agg #[.int .i64 3, .string ⟨#[]⟩, .int .i64 0], .int .i64 1, .int .i64 0]) (by simp [results, Try.results81, go_sem, z0, z1, z2]) rfl ⟨rfl, put3_below hfin _ _ _⟩
  by_cases hl1 : l.length = 1
  · rw [getF_1 hl1 h1 hk3]
    have t1 : ((l.length : Int) == 1) = true := beq_iff_eq.2 (by omega)
    have t3 : (gK l == 3) = false := beq_eq_false_iff_ne.2 hk3
    generalize gK l = k at *
    clear hk hk3 h h0
    go_enter Try.func81, Try.ntmps81
    go_wp2_with fail
    refine (l1In_b HI.out _).mono ?_
    rintro e w' ⟨rfl, rfl⟩
    go_wp2_with fail
    go_returns
    exact ⟨rfl, by go_grown⟩
  have hl : 2 ≤ l.length := by omega
  have t1 : ((l.length : Int) == 1) = false := beq_eq_false_iff_ne.2 (by omega)
  have t3 : (gK l == 3) = false := beq_eq_false_iff_ne.2 hk3
  have i1 : (1 : Int) < (l.length : Int) := by omega
  have c1 := h.second hl
  by_cases hk5 : gK l = 5
  · rw [getF_5 hl hk5]
    rw [hk5] at c0 HI
    obtain ⟨m, hm⟩ : ∃ m, gL l = m := ⟨_, rfl⟩
    rw [hm] at c1 hl2 ⊢
    have S : All (GF w ⟨5, ⟨#[]⟩, (m : Int)⟩) ((w.alloc (.cells #[.int .i64 0, .string ⟨#[]⟩, .int .i64 0] 33)).alloc (.cells #[.int .i64 5, .string ⟨#[]⟩, .int .i64 (m : Int)] 33)) := ⟨GF.start w _⟩
    clear hk3 t3 h hk h1 hk5 hm
    by_cases hm2 : m ≤ 2
    · rw [if_pos hm2]
      have HF := Lib.hid (show frB ⟨5, ⟨#[]⟩, (m : Int)⟩ = true by rw [frB_5]; simp [inI]; omega)
      clear hm2
      go_enter Try.func81, Try.ntmps81
      go_wp2_with fail
      refine (l1In_b HI.out _).mono ?_
      rintro e w' ⟨rfl, rfl⟩
      go_wp2_with fail
      generalize ((w.alloc (.cells #[.int .i64 0, .string ⟨#[]⟩, .int .i64 0] 33)).alloc (.cells #[.int .i64 5, .string ⟨#[]⟩, .int .i64 (m : Int)] 33)) = W at S ⊢
      refine (frameOkS_any ⟨5, ⟨#[]⟩, (m : Int)⟩ W (by show 0 ≤ 1048576; decide)).mono ?_
      rw [HF.out]
      rintro e W1 ⟨rfl, hb⟩
      replace S := S.later hb
      obtain ⟨z0, z1, z2⟩ := fr_box S.out.res
      obtain ⟨d0, d1, d2⟩ := fr_box S.out.var
      have q0 := var_frozen S.out.res 0
      have q1 := var_frozen S.out.res 1
      have q2 := var_frozen S.out.res 2
      have hfin := S.out.below
      clear hb S
      go_wp2_with fail
      exact bodyPost_ret (v := .tuple #[.agg #[.int .i64 5, .string ⟨#[]⟩, .int .i64 (m : Int)], .int .i64 2, .int .i64 0]) (by simp [results, Try.results81, go_sem, z0, z1, z2]) rfl ⟨rfl, put3_below hfin _ _ _⟩
    · rw [if_neg hm2]
      have HF := Lib.hid (show frB ⟨5, ⟨#[]⟩, (m : Int)⟩ = false by rw [frB_5]; simp [inI]; omega)
      clear hm2
      go_enter Try.func81, Try.ntmps81
      go_wp2_with fail
      refine (l1In_b HI.out _).mono ?_
      rintro e w' ⟨rfl, rfl⟩
      go_wp2_with fail
      generalize ((w.alloc (.cells #[.int .i64 0, .string ⟨#[]⟩, .int .i64 0] 33)).alloc (.cells #[.int .i64 5, .string ⟨#[]⟩, .int .i64 (m : Int)] 33)) = W at S ⊢
      refine (frameOkS_any ⟨5, ⟨#[]⟩, (m : Int)⟩ W (by show 0 ≤ 1048576; decide)).mono ?_
      rw [HF.out]
      rintro e W1 ⟨rfl, hb⟩
      replace S := S.later hb
      obtain ⟨z0, z1, z2⟩ := fr_box S.out.res
      obtain ⟨d0, d1, d2⟩ := fr_box S.out.var
      have q0 := var_frozen S.out.res 0
      have q1 := var_frozen S.out.res 1
      have q2 := var_frozen S.out.res 2
      have hfin := S.out.below
      clear hb S
      go_wp2_with fail
      exact bodyPost_ret (v := .tuple #[.agg #[.int .i64 0, .string ⟨#[]⟩, .int .i64 0], .int .i64 0, .int .i64 2]) (by simp [results, Try.results81, go_sem, z0, z1, z2]) rfl ⟨rfl, put3_below hfin _ _ _⟩
  have t5 : (gK l == 5) = false := beq_eq_false_iff_ne.2 hk5
  rw [getF_t hl h1 hk3 hk5]
  by_cases hb1 : 100 < gL l
  · rw [if_pos hb1]
    have i2 : (100 : Int) < (gL l : Int) := by omega
    generalize gK l = k at *
    generalize gL l = m at *
    clear hk hk3 hk5 h h0 hb1
    go_enter Try.func81, Try.ntmps81
    go_wp2_with fail
    refine (l1In_b HI.out _).mono ?_
    rintro e w' ⟨rfl, rfl⟩
    go_wp2_with fail
    go_returns
    exact ⟨rfl, by go_grown⟩
  rw [if_neg hb1]
  have i2 : ¬ (100 : Int) < (gL l : Int) := by omega
  by_cases hw2 : l.length < 2 + gL l
  · rw [if_pos hw2]
    have i3 : (l.length : Int) - 2 < (gL l : Int) := by omega
    generalize gK l = k at *
    generalize gL l = m at *
    clear hk hk3 hk5 h h0 hb1 hw2
    go_enter Try.func81, Try.ntmps81
    go_wp2_with fail
    refine (l1In_b HI.out _).mono ?_
    rintro e w' ⟨rfl, rfl⟩
    go_wp2_with fail
    go_returns
    exact ⟨rfl, by go_grown⟩
  rw [if_neg hw2]
  have i3 : ¬ (l.length : Int) - 2 < (gL l : Int) := by omega
  obtain ⟨A', hrun, hrd⟩ := slice_reads Try.underlying22 hi0 hz1 (A := some ⟨b, off, none⟩) (n := l.length) (c := c) (lo := 2) (hi' := 2 + gL l) .i64 .i64 (by omega) (by omega) hcap
  have hrd' := hrd h
  rw [show 2 + gL l - 2 = gL l by omega] at hrd' hrun
  have hsl : ∀ w, (Instr.slice 22 (.slice (some ⟨b, off, none⟩) l.length c) (some (.int .i64 2)) (some (.int .i64 (2 + (gL l : Int)))) none).run Try.prog w = .ok (.slice A' (gL l) (c - 2)) w := by
    intro w
    have := hrun w
    rwa [show (((2 : Nat) : Int)) = 2 by omega, show (((2 + gL l : Nat) : Int)) = 2 + (gL l : Int) by omega] at this
  have hsz := tx_size l
  have hFX : txF l = ⟨gK l, ⟨((l.drop 2).take (gL l)).toArray⟩, 0⟩ := rfl
  have HFX := Lib.hid hFX
  rw [hFX]
  clear hrun hrd hFX
  obtain ⟨x, hx⟩ : ∃ x : ByteArray, ⟨((l.drop 2).take (gL l)).toArray⟩ = x := ⟨_, rfl⟩
  have hcv0 := fun (w0 : World) (hr : Reads w0 w.heap.size 1 A' (gL l) (bys ((l.drop 2).take (gL l)))) => string_run (P := Try.prog) (src := 22) (dst := 9) Try.underlying22 Try.underlying5 Try.underlying9 (c := c - 2) hr
  have hcv := hcv0 _ ((hrd'.below (GF.start w ⟨gK l, ⟨#[]⟩, 0⟩).below))
  rw [hx] at hcv hsz ⊢
  have S : All (GF w ⟨gK l, x, 0⟩) ((w.alloc (.cells #[.int .i64 0, .string ⟨#[]⟩, .int .i64 0] 33)).alloc (.cells #[.int .i64 (gK l), .string x, .int .i64 0] 33)) := ⟨GF.start w _⟩
  replace hcv : (convert 22 9 (.slice A' (gL l) (c - 2))).run Try.prog ((w.alloc (.cells #[.int .i64 0, .string ⟨#[]⟩, .int .i64 0] 33)).alloc (.cells #[.int .i64 (gK l), .string ⟨#[]⟩, .int .i64 0] 33)) = .ok (.string x) ((w.alloc (.cells #[.int .i64 0, .string ⟨#[]⟩, .int .i64 0] 33)).alloc (.cells #[.int .i64 (gK l), .string ⟨#[]⟩, .int .i64 0] 33)) := hcv
  obtain ⟨r, hr⟩ : ∃ r, frB ⟨gK l, x, 0⟩ = r := ⟨_, rfl⟩
  rw [hr]
  have HF := Lib.hid hr
  generalize gK l = k at *
  generalize gL l = m at *
  clear hk hk3 hk5 h h0 hb1 hw2 hr hcv0 hrd' hx HFX
  cases r
  · rw [if_neg (by decide)]
    go_enter Try.func81, Try.ntmps81
    go_wp2_with fail
    refine (l1In_b HI.out _).mono ?_
    rintro e w' ⟨rfl, rfl⟩
    go_wp2_with fail
    generalize ((w.alloc (.cells #[.int .i64 0, .string ⟨#[]⟩, .int .i64 0] 33)).alloc (.cells #[.int .i64 k, .string x, .int .i64 0] 33)) = W at S ⊢
    refine (frameOkS_any ⟨k, x, 0⟩ W (by show x.size ≤ 1048576; omega)).mono ?_
    rw [HF.out]
    rintro e W1 ⟨rfl, hb⟩
    replace S := S.later hb
    obtain ⟨z0, z1, z2⟩ := fr_box S.out.res
    obtain ⟨d0, d1, d2⟩ := fr_box S.out.var
    have q0 := var_frozen S.out.res 0
    have q1 := var_frozen S.out.res 1
    have q2 := var_frozen S.out.res 2
    have hfin := S.out.below
    clear hb S
    go_wp2_with fail
    exact bodyPost_ret (v := .tuple #[.agg #[.int .i64 0, .string ⟨#[]⟩, .int .i64 0], .int .i64 0, .int .i64 2]) (by simp [results, Try.results81, go_sem, z0, z1, z2]) rfl ⟨rfl, put3_below hfin _ _ _⟩
  · rw [if_pos rfl]
    go_enter Try.func81, Try.ntmps81
    go_wp2_with fail
    refine (l1In_b HI.out _).mono ?_
    rintro e w' ⟨rfl, rfl⟩
    go_wp2_with fail
    generalize ((w.alloc (.cells #[.int .i64 0, .string ⟨#[]⟩, .int .i64 0] 33)).alloc (.cells #[.int .i64 k, .string x, .int .i64 0] 33)) = W at S ⊢
    refine (frameOkS_any ⟨k, x, 0⟩ W (by show x.size ≤ 1048576; omega)).mono ?_
    rw [HF.out]
    rintro e W1 ⟨rfl, hb⟩
    replace S := S.later hb
    obtain ⟨z0, z1, z2⟩ := fr_box S.out.res
    obtain ⟨d0, d1, d2⟩ := fr_box S.out.var
    have q0 := var_frozen S.out.res 0
    have q1 := var_frozen S.out.res 1
    have q2 := var_frozen S.out.res 2
    have hfin := S.out.below
    clear hb S
    go_wp2_with fail
    exact bodyPost_ret (v := .tuple #[.agg #[.int .i64 k, .string x, .int .i64 0], .int .i64 (2 + (m : Int)), .int .i64 0]) (by simp [results, Try.results81, go_sem, z0, z1, z2]) rfl ⟨rfl, put3_below hfin _ _ _⟩
def lenF (l : List UInt8) : Int × Int :=
  if l.length = 0 then (0, 1)
  else if gK l < 1 ∨ 6 < gK l then (0, 2)
  else if gK l = 3 then (1, 0)
  else if gK l = 5 then (2, 0)
  else if l.length = 1 then (0, 1)
  else if 100 < gL l then (0, 2)
  else (2 + (gL l : Int), 0)
theorem lenF_nil {l : List UInt8} (h : l.length = 0) : lenF l = (0, 1) := if_pos h
theorem lenF_out {l : List UInt8} (h : l.length ≠ 0) (hk : gK l < 1 ∨ 6 < gK l) : lenF l = (0, 2) := by
  unfold lenF; rw [if_neg h, if_pos hk]
theorem lenF_3 {l : List UInt8} (h : l.length ≠ 0) (hk : gK l = 3) : lenF l = (1, 0) := by
  unfold lenF; rw [if_neg h, if_neg (by omega), if_pos hk]
theorem lenF_5 {l : List UInt8} (h : l.length ≠ 0) (hk : gK l = 5) : lenF l = (2, 0) := by
  unfold lenF; rw [if_neg h, if_neg (by omega), if_neg (by omega), if_pos hk]
theorem lenF_1 {l : List UInt8} (h : l.length = 1) (hk : 1 ≤ gK l ∧ gK l ≤ 6) (h3 : gK l ≠ 3) (h5 : gK l ≠ 5) : lenF l = (0, 1) := by
  unfold lenF; rw [if_neg (by omega), if_neg (by omega), if_neg h3, if_neg h5, if_pos h]
theorem lenF_t {l : List UInt8} (h : 2 ≤ l.length) (hk : 1 ≤ gK l ∧ gK l ≤ 6) (h3 : gK l ≠ 3) (h5 : gK l ≠ 5) : lenF l = if 100 < gL l then (0, 2) else (2 + (gL l : Int), 0) := by
  unfold lenF; rw [if_neg (by omega), if_neg (by omega), if_neg h3, if_neg h5, if_neg (by omega)]
def RetLen (w : World) (p : Int × Int) (e : Ending) (w' : World) : Prop := e = .returned (.tuple #[.int .i64 p.1, .int .i64 p.2]) ∧ Below w.heap.size w w'
set_option maxRecDepth 10000 in
set_option maxHeartbeats 8000000 in
theorem frameLen_any (A : Option Addr) (c : Nat) (l : List UInt8) (w : World) (h : Reads w w.heap.size 1 A l.length (bys l)) (hn : l.length ≤ 100000000) :
    Calls Try.prog 98 #[.slice A l.length c] w (RetLen w (lenF l)) := by
  unfold RetLen
  by_cases h0 : l.length = 0
  · rw [lenF_nil h0]
    have t0 : ((l.length : Int) == 0) = true := beq_iff_eq.2 (by omega)
    clear h0
    go_enter Try.func98, Try.ntmps98
    go_wp2_with fail
    go_ret2
    exact ⟨rfl, Later.refl w⟩
  have t0 : ((l.length : Int) == 0) = false := beq_eq_false_iff_ne.2 (by omega)
  have i0' : (0 : Int) < (l.length : Int) := by omega
  obtain ⟨b, off, rfl, hbw, c0⟩ := h.first h0
  obtain ⟨g0, g1⟩ := gK_byte l
  have hl2 := gL_byte l
  by_cases hk : gK l < 1 ∨ 6 < gK l
  · rw [lenF_out h0 hk]
    have HM := Lib.hid (msg_none ⟨#[]⟩ 0 hk)
    generalize gK l = k at *
    clear hk h
    go_enter Try.func98, Try.ntmps98
    go_wp2_with fail
    refine (messageOf_any ⟨k, ⟨#[]⟩, 0⟩ w).mono ?_
    rw [HM.out.1, HM.out.2]
    rintro e W1 ⟨rfl, hb⟩
    go_wp2_with fail
    go_ret2
    exact ⟨rfl, hb⟩
  have h1 : 1 ≤ gK l ∧ gK l ≤ 6 := by omega
  obtain ⟨q, hq⟩ : ∃ q, lenF l = q := ⟨_, rfl⟩
  rw [hq]
  have HQ := Lib.hid hq
  clear hq
  have hK : gK l = 1 ∨ gK l = 2 ∨ gK l = 3 ∨ gK l = 4 ∨ gK l = 5 ∨ gK l = 6 := by omega
  rcases hK with hK | hK | hK | hK | hK | hK
  · rw [hK] at c0
    have HM := Lib.hid (show msgV ⟨1, ⟨#[]⟩, 0⟩ = .iface 176 (.string ⟨#[]⟩) ∧ isK ⟨1, ⟨#[]⟩, 0⟩ = true from ⟨rfl, rfl⟩)
    have a3 := Try.as_1_3 (.string ⟨#[]⟩)
    have a5 := Try.as_1_5 (.string ⟨#[]⟩)
    by_cases hl1 : l.length = 1
    · obtain rfl : (0, 1) = q := by rw [← HQ.out, lenF_1 hl1 h1 (by omega) (by omega)]
      have t1 : ((l.length : Int) == 1) = true := beq_iff_eq.2 (by omega)
      clear hk h h1 hK HQ h0 hl1
      go_enter Try.func98, Try.ntmps98
      go_wp2_with fail
      refine (messageOf_any ⟨1, ⟨#[]⟩, 0⟩ w).mono ?_
      rw [HM.out.1, HM.out.2]
      rintro e W1 ⟨rfl, hb⟩
      have cc := bcell hb
      clear cc
      go_wp2_with fail
      go_ret2
      exact ⟨rfl, hb⟩
    have hl : 2 ≤ l.length := by omega
    have t1 : ((l.length : Int) == 1) = false := beq_eq_false_iff_ne.2 (by omega)
    have i1 : (1 : Int) < (l.length : Int) := by omega
    have c1 := h.second hl
    have hQ := HQ.out
    rw [lenF_t hl h1 (by omega) (by omega)] at hQ
    by_cases hb1 : 100 < gL l
    · rw [if_pos hb1] at hQ
      subst hQ
      have i2 : (100 : Int) < (gL l : Int) := by omega
      clear h hk h1 hK HQ h0 hl1
      go_enter Try.func98, Try.ntmps98
      go_wp2_with fail
      refine (messageOf_any ⟨1, ⟨#[]⟩, 0⟩ w).mono ?_
      rw [HM.out.1, HM.out.2]
      rintro e W1 ⟨rfl, hb⟩
      have cc := bcell hb
      have c2 := (cc.1 b (off + 1) hbw).trans c1
      clear cc
      go_wp2_with fail
      go_ret2
      exact ⟨rfl, hb⟩
    · rw [if_neg hb1] at hQ
      subst hQ
      have i2 : ¬ (100 : Int) < (gL l : Int) := by omega
      clear h hk h1 hK HQ h0 hl1
      go_enter Try.func98, Try.ntmps98
      go_wp2_with fail
      refine (messageOf_any ⟨1, ⟨#[]⟩, 0⟩ w).mono ?_
      rw [HM.out.1, HM.out.2]
      rintro e W1 ⟨rfl, hb⟩
      have cc := bcell hb
      have c2 := (cc.1 b (off + 1) hbw).trans c1
      clear cc
      go_wp2_with fail
      go_ret2
      exact ⟨rfl, hb⟩
  · rw [hK] at c0
    have HM := Lib.hid (show msgV ⟨2, ⟨#[]⟩, 0⟩ = .iface 177 (.string ⟨#[]⟩) ∧ isK ⟨2, ⟨#[]⟩, 0⟩ = true from ⟨rfl, rfl⟩)
    have a3 := Try.as_2_3 (.string ⟨#[]⟩)
    have a5 := Try.as_2_5 (.string ⟨#[]⟩)
    by_cases hl1 : l.length = 1
    · obtain rfl : (0, 1) = q := by rw [← HQ.out, lenF_1 hl1 h1 (by omega) (by omega)]
      have t1 : ((l.length : Int) == 1) = true := beq_iff_eq.2 (by omega)
      clear hk h h1 hK HQ h0 hl1
      go_enter Try.func98, Try.ntmps98
      go_wp2_with fail
      refine (messageOf_any ⟨2, ⟨#[]⟩, 0⟩ w).mono ?_
      rw [HM.out.1, HM.out.2]
      rintro e W1 ⟨rfl, hb⟩
      have cc := bcell hb
      clear cc
      go_wp2_with fail
      go_ret2
      exact ⟨rfl, hb⟩
    have hl : 2 ≤ l.length := by omega
    have t1 : ((l.length : Int) == 1) = false := beq_eq_false_iff_ne.2 (by omega)
    have i1 : (1 : Int) < (l.length : Int) := by omega
    have c1 := h.second hl
    have hQ := HQ.out
    rw [lenF_t hl h1 (by omega) (by omega)] at hQ
    by_cases hb1 : 100 < gL l
    · rw [if_pos hb1] at hQ
      subst hQ
      have i2 : (100 : Int) < (gL l : Int) := by omega
      clear h hk h1 hK HQ h0 hl1
      go_enter Try.func98, Try.ntmps98
      go_wp2_with fail
      refine (messageOf_any ⟨2, ⟨#[]⟩, 0⟩ w).mono ?_
      rw [HM.out.1, HM.out.2]
      rintro e W1 ⟨rfl, hb⟩
      have cc := bcell hb
      have c2 := (cc.1 b (off + 1) hbw).trans c1
      clear cc
      go_wp2_with fail
      go_ret2
      exact ⟨rfl, hb⟩
    · rw [if_neg hb1] at hQ
      subst hQ
      have i2 : ¬ (100 : Int) < (gL l : Int) := by omega
      clear h hk h1 hK HQ h0 hl1
      go_enter Try.func98, Try.ntmps98
      go_wp2_with fail
      refine (messageOf_any ⟨2, ⟨#[]⟩, 0⟩ w).mono ?_
      rw [HM.out.1, HM.out.2]
      rintro e W1 ⟨rfl, hb⟩
      have cc := bcell hb
      have c2 := (cc.1 b (off + 1) hbw).trans c1
      clear cc
      go_wp2_with fail
      go_ret2
      exact ⟨rfl, hb⟩
  · rw [hK] at c0
    have HM := Lib.hid (show msgV ⟨3, ⟨#[]⟩, 0⟩ = .iface 122 (.agg #[]) ∧ isK ⟨3, ⟨#[]⟩, 0⟩ = true from ⟨rfl, rfl⟩)
    have a3 := Try.as_3_3 (.agg #[])
    have a5 := Try.as_3_5 (.agg #[])
    obtain rfl : (1, 0) = q := by rw [← HQ.out, lenF_3 h0 hK]
    clear hk h h1 hK HQ h0
    go_enter Try.func98, Try.ntmps98
    go_wp2_with fail
    refine (messageOf_any ⟨3, ⟨#[]⟩, 0⟩ w).mono ?_
    rw [HM.out.1, HM.out.2]
    rintro e W1 ⟨rfl, hb⟩
    have cc := bcell hb
    clear cc
    go_wp2_with fail
    go_ret2
    exact ⟨rfl, hb⟩
  · rw [hK] at c0
    have HM := Lib.hid (show msgV ⟨4, ⟨#[]⟩, 0⟩ = .iface 178 (.string ⟨#[]⟩) ∧ isK ⟨4, ⟨#[]⟩, 0⟩ = true from ⟨rfl, rfl⟩)
    have a3 := Try.as_4_3 (.string ⟨#[]⟩)
    have a5 := Try.as_4_5 (.string ⟨#[]⟩)
    by_cases hl1 : l.length = 1
    · obtain rfl : (0, 1) = q := by rw [← HQ.out, lenF_1 hl1 h1 (by omega) (by omega)]
      have t1 : ((l.length : Int) == 1) = true := beq_iff_eq.2 (by omega)
      clear hk h h1 hK HQ h0 hl1
      go_enter Try.func98, Try.ntmps98
      go_wp2_with fail
      refine (messageOf_any ⟨4, ⟨#[]⟩, 0⟩ w).mono ?_
      rw [HM.out.1, HM.out.2]
      rintro e W1 ⟨rfl, hb⟩
      have cc := bcell hb
      clear cc
      go_wp2_with fail
      go_ret2
      exact ⟨rfl, hb⟩
    have hl : 2 ≤ l.length := by omega
    have t1 : ((l.length : Int) == 1) = false := beq_eq_false_iff_ne.2 (by omega)
    have i1 : (1 : Int) < (l.length : Int) := by omega
    have c1 := h.second hl
    have hQ := HQ.out
    rw [lenF_t hl h1 (by omega) (by omega)] at hQ
    by_cases hb1 : 100 < gL l
    · rw [if_pos hb1] at hQ
      subst hQ
      have i2 : (100 : Int) < (gL l : Int) := by omega
      clear h hk h1 hK HQ h0 hl1
      go_enter Try.func98, Try.ntmps98
      go_wp2_with fail
      refine (messageOf_any ⟨4, ⟨#[]⟩, 0⟩ w).mono ?_
      rw [HM.out.1, HM.out.2]
      rintro e W1 ⟨rfl, hb⟩
      have cc := bcell hb
      have c2 := (cc.1 b (off + 1) hbw).trans c1
      clear cc
      go_wp2_with fail
      go_ret2
      exact ⟨rfl, hb⟩
    · rw [if_neg hb1] at hQ
      subst hQ
      have i2 : ¬ (100 : Int) < (gL l : Int) := by omega
      clear h hk h1 hK HQ h0 hl1
      go_enter Try.func98, Try.ntmps98
      go_wp2_with fail
      refine (messageOf_any ⟨4, ⟨#[]⟩, 0⟩ w).mono ?_
      rw [HM.out.1, HM.out.2]
      rintro e W1 ⟨rfl, hb⟩
      have cc := bcell hb
      have c2 := (cc.1 b (off + 1) hbw).trans c1
      clear cc
      go_wp2_with fail
      go_ret2
      exact ⟨rfl, hb⟩
  · rw [hK] at c0
    have HM := Lib.hid (show msgV ⟨5, ⟨#[]⟩, 0⟩ = .iface 123 (.int .i64 0) ∧ isK ⟨5, ⟨#[]⟩, 0⟩ = true from ⟨rfl, rfl⟩)
    have a3 := Try.as_5_3 (.int .i64 0)
    have a5 := Try.as_5_5 (.int .i64 0)
    obtain rfl : (2, 0) = q := by rw [← HQ.out, lenF_5 h0 hK]
    clear hk h h1 hK HQ h0
    go_enter Try.func98, Try.ntmps98
    go_wp2_with fail
    refine (messageOf_any ⟨5, ⟨#[]⟩, 0⟩ w).mono ?_
    rw [HM.out.1, HM.out.2]
    rintro e W1 ⟨rfl, hb⟩
    have cc := bcell hb
    clear cc
    go_wp2_with fail
    go_ret2
    exact ⟨rfl, hb⟩
  · rw [hK] at c0
    have HM := Lib.hid (show msgV ⟨6, ⟨#[]⟩, 0⟩ = .iface 179 (.string ⟨#[]⟩) ∧ isK ⟨6, ⟨#[]⟩, 0⟩ = true from ⟨rfl, rfl⟩)
    have a3 := Try.as_6_3 (.string ⟨#[]⟩)
    have a5 := Try.as_6_5 (.string ⟨#[]⟩)
    by_cases hl1 : l.length = 1
    · obtain rfl : (0, 1) = q := by rw [← HQ.out, lenF_1 hl1 h1 (by omega) (by omega)]
      have t1 : ((l.length : Int) == 1) = true := beq_iff_eq.2 (by omega)
      clear hk h h1 hK HQ h0 hl1
      go_enter Try.func98, Try.ntmps98
      go_wp2_with fail
      refine (messageOf_any ⟨6, ⟨#[]⟩, 0⟩ w).mono ?_
      rw [HM.out.1, HM.out.2]
      rintro e W1 ⟨rfl, hb⟩
      have cc := bcell hb
      clear cc
      go_wp2_with fail
      go_ret2
      exact ⟨rfl, hb⟩
    have hl : 2 ≤ l.length := by omega
    have t1 : ((l.length : Int) == 1) = false := beq_eq_false_iff_ne.2 (by omega)
    have i1 : (1 : Int) < (l.length : Int) := by omega
    have c1 := h.second hl
    have hQ := HQ.out
    rw [lenF_t hl h1 (by omega) (by omega)] at hQ
    by_cases hb1 : 100 < gL l
    · rw [if_pos hb1] at hQ
      subst hQ
      have i2 : (100 : Int) < (gL l : Int) := by omega
      clear h hk h1 hK HQ h0 hl1
      go_enter Try.func98, Try.ntmps98
      go_wp2_with fail
      refine (messageOf_any ⟨6, ⟨#[]⟩, 0⟩ w).mono ?_
      rw [HM.out.1, HM.out.2]
      rintro e W1 ⟨rfl, hb⟩
      have cc := bcell hb
      have c2 := (cc.1 b (off + 1) hbw).trans c1
      clear cc
      go_wp2_with fail
      go_ret2
      exact ⟨rfl, hb⟩
    · rw [if_neg hb1] at hQ
      subst hQ
      have i2 : ¬ (100 : Int) < (gL l : Int) := by omega
      clear h hk h1 hK HQ h0 hl1
      go_enter Try.func98, Try.ntmps98
      go_wp2_with fail
      refine (messageOf_any ⟨6, ⟨#[]⟩, 0⟩ w).mono ?_
      rw [HM.out.1, HM.out.2]
      rintro e W1 ⟨rfl, hb⟩
      have cc := bcell hb
      have c2 := (cc.1 b (off + 1) hbw).trans c1
      clear cc
      go_wp2_with fail
      go_ret2
      exact ⟨rfl, hb⟩
/-- The frame of bytes that are as long as it. -/
def rdF (l : List UInt8) : Fr :=
  if gK l = 5 then ⟨5, ⟨#[]⟩, (gL l : Int)⟩
  else if 1 < l.length then ⟨gK l, ⟨(l.drop 2).toArray⟩, 0⟩
  else ⟨gK l, ⟨#[]⟩, 0⟩
def RetFr (w : World) (f : Fr) (e : Ending) (w' : World) : Prop := e = .returned (.agg (frC f).toArray) ∧ Below w.heap.size w w'
set_option maxRecDepth 10000 in
set_option maxHeartbeats 8000000 in
theorem readFrame_any (A : Option Addr) (c : Nat) (l : List UInt8) (w : World) (h : Reads w w.heap.size 1 A l.length (bys l)) (hn : l.length ≤ 100000000) (hcap : l.length ≤ c) (h0 : l.length ≠ 0) (h5 : gK l = 5 ∨ 1 < l.length → 2 ≤ l.length) :
    Calls Try.prog 99 #[.slice A l.length c] w (RetFr w (rdF l)) := by
  obtain ⟨i0, hi0, hz0, hz1, hz2⟩ := info_parts Try.info8
  unfold RetFr
  have i0' : (0 : Int) < (l.length : Int) := by omega
  obtain ⟨b, off, rfl, hbw, c0⟩ := h.first h0
  obtain ⟨g0, g1⟩ := gK_byte l
  have hl2 := gL_byte l
  obtain ⟨q, hq⟩ : ∃ q, rdF l = q := ⟨_, rfl⟩
  rw [hq]
  have HQ := Lib.hid hq
  clear hq
  by_cases hk5 : gK l = 5
  · obtain rfl : ⟨5, ⟨#[]⟩, (gL l : Int)⟩ = q := by rw [← HQ.out]; unfold rdF; rw [if_pos hk5]
    have hl := h5 (.inl hk5)
    have c1 := h.second hl
    have i1 : (1 : Int) < (l.length : Int) := by omega
    rw [hk5] at c0
    clear hk5 h5 h HQ h0
    generalize gL l = m at *
    go_enter Try.func99, Try.ntmps99
    go_wp2_with fail
    go_returns
    exact ⟨rfl, by go_grown⟩
  have t5 : (gK l == 5) = false := beq_eq_false_iff_ne.2 hk5
  by_cases hl : 1 < l.length
  · obtain rfl : ⟨gK l, ⟨(l.drop 2).toArray⟩, 0⟩ = q := by rw [← HQ.out]; unfold rdF; rw [if_neg hk5, if_pos hl]
    have h2 := h5 (.inr hl)
    have i1 : (1 : Int) < (l.length : Int) := by omega
    obtain ⟨A', hrun, hrd⟩ := slice_readsF Try.underlying22 hi0 hz1 (A := some ⟨b, off, none⟩) (n := l.length) (c := c) (lo := 2) .i64 h2 hcap
    have hrd' := hrd h
    have hsl : ∀ w, (Instr.slice 22 (.slice (some ⟨b, off, none⟩) l.length c) (some (.int .i64 2)) none none).run Try.prog w = .ok (.slice A' (l.length - 2) (c - 2)) w := hrun
    have hsz : (⟨(l.drop 2).toArray⟩ : ByteArray).size ≤ 100000000 := by
      show ((l.drop 2).toArray).size ≤ 100000000
      rw [List.size_toArray, List.length_drop]
      omega
    obtain ⟨x, hx⟩ : ∃ x : ByteArray, ⟨(l.drop 2).toArray⟩ = x := ⟨_, rfl⟩
    have hcv := string_run (P := Try.prog) (src := 22) (dst := 9) Try.underlying22 Try.underlying5 Try.underlying9 (c := c - 2) (hrd'.below (GF.start w ⟨gK l, ⟨#[]⟩, 0⟩).below)
    rw [hx] at hcv hsz ⊢
    replace hcv : (convert 22 9 (.slice A' (l.length - 2) (c - 2))).run Try.prog ((w.alloc (.cells #[.int .i64 0, .string ⟨#[]⟩, .int .i64 0] 33)).alloc (.cells #[.int .i64 (gK l), .string ⟨#[]⟩, .int .i64 0] 33)) = .ok (.string x) ((w.alloc (.cells #[.int .i64 0, .string ⟨#[]⟩, .int .i64 0] 33)).alloc (.cells #[.int .i64 (gK l), .string ⟨#[]⟩, .int .i64 0] 33)) := hcv
    generalize gK l = k at *
    clear hk5 h5 h HQ h0 hrun hrd hrd' hx hl h2
    go_enter Try.func99, Try.ntmps99
    go_wp2_with fail
    go_returns
    exact ⟨rfl, by go_grown⟩
  · obtain rfl : ⟨gK l, ⟨#[]⟩, 0⟩ = q := by rw [← HQ.out]; unfold rdF; rw [if_neg hk5, if_neg hl]
    have i1 : ¬ (1 : Int) < (l.length : Int) := by omega
    generalize gK l = k at *
    clear hk5 h5 h HQ h0 hl
    go_enter Try.func99, Try.ntmps99
    go_wp2_with fail
    go_returns
    exact ⟨rfl, by go_grown⟩
theorem gK_take {l : List UInt8} {n : Nat} (h : 1 ≤ n) : gK (l.take n) = gK l := by
  unfold gK
  simp only [List.getD, List.getElem?_take]
  rw [if_pos (by omega)]
theorem gL_take {l : List UInt8} {n : Nat} (h : 2 ≤ n) : gL (l.take n) = gL l := by
  unfold gL
  simp only [List.getD, List.getElem?_take]
  rw [if_pos (by omega)]
theorem lenF_ways (l : List UInt8) : ((lenF l).2 ≠ 0 ∧ (lenF l).1 = 0 ∧ (lenF l).2 ≤ 2 ∧ 0 ≤ (lenF l).2 ∧ getF l = (⟨0, ⟨#[]⟩, 0⟩, 0, (lenF l).2)) ∨
    (∃ n : Nat, lenF l = ((n : Int), 0) ∧ 1 ≤ n ∧ n ≤ 102 ∧ l.length ≠ 0 ∧ (gK l = 5 ∨ n ≠ 1 → 2 ≤ n) ∧
      (l.length < n → getF l = (⟨0, ⟨#[]⟩, 0⟩, 0, 1)) ∧ (n ≤ l.length → getF l = if frB (rdF (l.take n)) = true then (rdF (l.take n), (n : Int), 0) else (⟨0, ⟨#[]⟩, 0⟩, 0, 2))) := by
  by_cases h0 : l.length = 0
  · rw [lenF_nil h0, getF_nil h0]
    exact .inl ⟨by decide, rfl, by decide, by decide, rfl⟩
  by_cases hk : gK l < 1 ∨ 6 < gK l
  · rw [lenF_out h0 hk, getF_out h0 hk]
    exact .inl ⟨by decide, rfl, by decide, by decide, rfl⟩
  have h1 : 1 ≤ gK l ∧ gK l ≤ 6 := by omega
  by_cases hk3 : gK l = 3
  · refine .inr ⟨1, by rw [lenF_3 h0 hk3]; rfl, by omega, by omega, h0, by omega, fun h => absurd h (by omega), fun h => ?_⟩
    rw [getF_3 h0 hk3]
    have e : rdF (l.take 1) = ⟨3, ⟨#[]⟩, 0⟩ := by
      unfold rdF
      rw [gK_take (Nat.le_refl _), hk3, if_neg (by omega), if_neg (by rw [List.length_take]; omega)]
    rw [e]
    rfl
  by_cases hk5 : gK l = 5
  · refine .inr ⟨2, by rw [lenF_5 h0 hk5]; rfl, by omega, by omega, h0, by omega, fun h => getF_1 (by omega) h1 hk3, fun h => ?_⟩
    rw [getF_5 h hk5]
    have e : rdF (l.take 2) = ⟨5, ⟨#[]⟩, (gL l : Int)⟩ := by
      unfold rdF
      rw [gK_take (by omega), gL_take (Nat.le_refl _), if_pos hk5]
    rw [e, frB_5]
    by_cases hm : gL l ≤ 2
    · rw [if_pos hm, if_pos (by simp [inI]; omega)]
      rfl
    · rw [if_neg hm, if_neg (by simp [inI]; omega)]
      rfl
  by_cases hl1 : l.length = 1
  · rw [lenF_1 hl1 h1 hk3 hk5, getF_1 hl1 h1 hk3]
    exact .inl ⟨by decide, rfl, by decide, by decide, rfl⟩
  have hl : 2 ≤ l.length := by omega
  rw [lenF_t hl h1 hk3 hk5, getF_t hl h1 hk3 hk5]
  by_cases hb : 100 < gL l
  · rw [if_pos hb, if_pos hb]
    exact .inl ⟨by decide, rfl, by decide, by decide, rfl⟩
  rw [if_neg hb, if_neg hb]
  refine .inr ⟨2 + gL l, by rw [Int.natCast_add]; rfl, by omega, by omega, h0, by omega, fun h => by rw [if_pos h]; rfl, fun h => ?_⟩
  rw [if_neg (by omega)]
  have e : rdF (l.take (2 + gL l)) = txF l := by
    unfold rdF txF
    rw [gK_take (by omega), if_neg hk5, if_pos (by rw [List.length_take]; omega), List.drop_take, show 2 + gL l - 2 = gL l by omega]
  rw [e, Int.natCast_add]
  rfl
theorem rdF_size (l : List UInt8) (h : l.length ≤ 102) : (rdF l).s.size ≤ 102 := by
  unfold rdF
  split
  · show 0 ≤ 102; omega
  · split
    · show ((l.drop 2).toArray).size ≤ 102
      rw [List.size_toArray, List.length_drop]
      omega
    · show 0 ≤ 102; omega
/-- The result's box, still zero. -/
structure GZ (w w' : World) : Prop where
  below : Below w.heap.size w w'
  res : w'.heap[w.heap.size]? = some (.cells (frC ⟨0, ⟨#[]⟩, 0⟩).toArray 33 (0, 0))
instance GZ.keeps (w : World) : Keeps (GZ w) := ⟨fun h x => ⟨Later.trans x.below h, Keeps.keeps (F := fun w' => w'.heap[w.heap.size]? = some (.cells (frC ⟨0, ⟨#[]⟩, 0⟩).toArray 33 (0, 0))) h x.res⟩⟩
theorem GZ.start (w : World) : GZ w (w.alloc (.cells #[.int .i64 0, .string ⟨#[]⟩, .int .i64 0] 33)) := ⟨Later.alloc w _, heap_alloc_new w _⟩
set_option maxRecDepth 10000 in
set_option maxHeartbeats 8000000 in
theorem getFrame_any (A : Option Addr) (c : Nat) (l : List UInt8) (w : World) (h : Reads w w.heap.size 1 A l.length (bys l)) (hn : l.length ≤ 100000000) (hcap : l.length ≤ c) :
    Calls Try.prog 36 #[.slice A l.length c] w (RetGetF w (getF l)) := by
  obtain ⟨i0, hi0, hz0, hz1, hz2⟩ := info_parts Try.info8
  unfold RetGetF
  have S : All (GZ w) (w.alloc (.cells #[.int .i64 0, .string ⟨#[]⟩, .int .i64 0] 33)) := ⟨GZ.start w⟩
  have R0 := (h.below S.out.below).more S.out.below.size
  rcases lenF_ways l with ⟨hc, hl1, hc1, hc2, hg⟩ | ⟨n, hq, hn1, hn2, hl0, h5, hshort, hlong⟩
  · obtain ⟨⟨q1, code⟩, hp⟩ : ∃ p, lenF l = p := ⟨_, rfl⟩
    rw [hp] at hc hl1 hc1 hc2 hg
    rw [hg]
    replace hl1 : q1 = 0 := hl1
    replace hc : code ≠ 0 := hc
    have HP := Lib.hid hp
    have tc : (code != 0) = true := by simpa using hc
    subst hl1
    clear hg hp hc hc1 hc2
    go_enter Try.func36, Try.ntmps36
    go_wp2_with fail
    generalize w.alloc (.cells #[.int .i64 0, .string ⟨#[]⟩, .int .i64 0] 33) = W at S R0 ⊢
    refine (frameLen_any A c l W R0 hn).mono ?_
    rw [HP.out]
    rintro e W1 ⟨rfl, hb⟩
    replace S := S.later hb
    obtain ⟨z0, z1, z2⟩ := fr_box S.out.res
    have q0 := var_frozen S.out.res 0
    have q1 := var_frozen S.out.res 1
    have q2 := var_frozen S.out.res 2
    have hfin := S.out.below
    clear hb S
    go_wp2_with fail
    exact bodyPost_ret (v := .tuple #[.agg #[.int .i64 0, .string ⟨#[]⟩, .int .i64 0], .int .i64 0, .int .i64 code]) (by simp [results, Try.results36, go_sem, z0, z1, z2]) rfl ⟨rfl, put3_below hfin _ _ _⟩
  have HQ := Lib.hid hq
  have t0 : ((0 : Int) != 0) = false := rfl
  clear hq
  by_cases hs : l.length < n
  · rw [hshort hs]
    have i1 : (l.length : Int) < (n : Int) := by omega
    clear hshort hlong hs h5
    go_enter Try.func36, Try.ntmps36
    go_wp2_with fail
    generalize w.alloc (.cells #[.int .i64 0, .string ⟨#[]⟩, .int .i64 0] 33) = W at S R0 ⊢
    refine (frameLen_any A c l W R0 hn).mono ?_
    rw [HQ.out]
    rintro e W1 ⟨rfl, hb⟩
    replace S := S.later hb
    obtain ⟨z0, z1, z2⟩ := fr_box S.out.res
    have q0 := var_frozen S.out.res 0
    have q1 := var_frozen S.out.res 1
    have q2 := var_frozen S.out.res 2
    have hfin := S.out.below
    clear hb S
    go_wp2_with fail
    exact bodyPost_ret (v := .tuple #[.agg #[.int .i64 0, .string ⟨#[]⟩, .int .i64 0], .int .i64 0, .int .i64 1]) (by simp [results, Try.results36, go_sem, z0, z1, z2]) rfl ⟨rfl, put3_below hfin _ _ _⟩
  rw [hlong (by omega)]
  have i1 : ¬ (l.length : Int) < (n : Int) := by omega
  obtain ⟨A', hrun, hrd⟩ := slice_reads0 Try.underlying22 hi0 hz1 (A := A) (n := l.length) (c := c) (hi' := n) .i64 (by omega) hcap
  have htl : (l.take n).length = n := by rw [List.length_take]; omega
  have htk : gK (l.take n) = 5 ∨ 1 < (l.take n).length → 2 ≤ (l.take n).length := by
    rw [htl, gK_take hn1]
    intro h
    exact h5 (h.imp id (by omega))
  obtain ⟨m, hm⟩ : ∃ m, l.take n = m := ⟨_, rfl⟩
  rw [hm] at htl htk ⊢
  have R1 := hrd R0
  rw [hm] at R1
  obtain ⟨⟨fk, fs, fst⟩, hf⟩ : ∃ f, rdF m = f := ⟨_, rfl⟩
  have hfs := rdF_size m (by omega)
  rw [hf] at hfs ⊢
  replace hfs : fs.size ≤ 102 := hfs
  have HF := Lib.hid hf
  obtain ⟨r, hr⟩ : ∃ r, frB ⟨fk, fs, fst⟩ = r := ⟨_, rfl⟩
  rw [hr]
  have HR := Lib.hid hr
  have HM := Lib.hid htl
  have HK := Lib.hid htk
  have hsl := hrun
  have R2 : All (fun w' => Reads w' w'.heap.size 1 A' m.length (bys m)) (w.alloc (.cells #[.int .i64 0, .string ⟨#[]⟩, .int .i64 0] 33)) := ⟨by rw [htl]; exact R1⟩
  clear hr hf hrun hrd hm htl htk hshort hlong hs h5 R1
  cases r
  · rw [if_neg (by decide)]
    go_enter Try.func36, Try.ntmps36
    go_wp2_with fail
    generalize w.alloc (.cells #[.int .i64 0, .string ⟨#[]⟩, .int .i64 0] 33) = W at S R0 R2 ⊢
    refine (frameLen_any A c l W R0 hn).mono ?_
    rw [HQ.out]
    rintro e W1 ⟨rfl, hb⟩
    replace S := S.later hb
    replace R2 := R2.later hb
    clear hb
    go_wp2_with fail
    have J := readFrame_any A' c m W1 R2.out (by have := HM.out; omega) (by have := HM.out; omega) (by have := HM.out; omega) HK.out
    rw [HM.out] at J
    refine J.mono ?_
    clear J
    rw [HF.out]
    rintro e W2 ⟨h9, hb⟩
    replace h9 : e = .returned (.agg #[.int .i64 fk, .string fs, .int .i64 fst]) := h9
    subst h9
    replace S := S.later hb
    clear hb
    have S2 : All (fun w' => GZ w w' ∧ Hid (w'.heap[W2.heap.size]? = some (.cells (frC ⟨fk, fs, fst⟩).toArray 33 (0, 0)))) (W2.alloc (.cells (frC ⟨fk, fs, fst⟩).toArray 33)) := ⟨(S.alloc _).out, Lib.hid (heap_alloc_new W2 _)⟩
    clear S
    go_wp2_with fail
    replace S2 : All (fun w' => GZ w w' ∧ Hid (w'.heap[W2.heap.size]? = some (.cells (frC ⟨fk, fs, fst⟩).toArray 33 (0, 0)))) (W2.alloc (.cells #[.int .i64 fk, .string fs, .int .i64 fst] 33)) := S2
    generalize W2.alloc (.cells #[.int .i64 fk, .string fs, .int .i64 fst] 33) = W3 at S2 ⊢
    refine (frameOk_any ⟨fk, fs, fst⟩ W3 (by show fs.size ≤ 1048576; omega)).mono ?_
    rw [HR.out]
    rintro e W4 ⟨rfl, hb⟩
    replace S2 := S2.later hb
    obtain ⟨z0, z1, z2⟩ := fr_box S2.out.1.res
    have q0 := var_frozen S2.out.1.res 0
    have q1 := var_frozen S2.out.1.res 1
    have q2 := var_frozen S2.out.1.res 2
    have hfin := S2.out.1.below
    clear hb S2 R2
    go_wp2_with fail
    exact bodyPost_ret (v := .tuple #[.agg #[.int .i64 0, .string ⟨#[]⟩, .int .i64 0], .int .i64 0, .int .i64 2]) (by simp [results, Try.results36, go_sem, z0, z1, z2]) rfl ⟨rfl, put3_below hfin _ _ _⟩
  · rw [if_pos rfl]
    go_enter Try.func36, Try.ntmps36
    go_wp2_with fail
    generalize w.alloc (.cells #[.int .i64 0, .string ⟨#[]⟩, .int .i64 0] 33) = W at S R0 R2 ⊢
    refine (frameLen_any A c l W R0 hn).mono ?_
    rw [HQ.out]
    rintro e W1 ⟨rfl, hb⟩
    replace S := S.later hb
    replace R2 := R2.later hb
    clear hb
    go_wp2_with fail
    have J := readFrame_any A' c m W1 R2.out (by have := HM.out; omega) (by have := HM.out; omega) (by have := HM.out; omega) HK.out
    rw [HM.out] at J
    refine J.mono ?_
    clear J
    rw [HF.out]
    rintro e W2 ⟨h9, hb⟩
    replace h9 : e = .returned (.agg #[.int .i64 fk, .string fs, .int .i64 fst]) := h9
    subst h9
    replace S := S.later hb
    clear hb
    have S2 : All (fun w' => GZ w w' ∧ Hid (w'.heap[W2.heap.size]? = some (.cells (frC ⟨fk, fs, fst⟩).toArray 33 (0, 0)))) (W2.alloc (.cells (frC ⟨fk, fs, fst⟩).toArray 33)) := ⟨(S.alloc _).out, Lib.hid (heap_alloc_new W2 _)⟩
    clear S
    go_wp2_with fail
    replace S2 : All (fun w' => GZ w w' ∧ Hid (w'.heap[W2.heap.size]? = some (.cells (frC ⟨fk, fs, fst⟩).toArray 33 (0, 0)))) (W2.alloc (.cells #[.int .i64 fk, .string fs, .int .i64 fst] 33)) := S2
    generalize W2.alloc (.cells #[.int .i64 fk, .string fs, .int .i64 fst] 33) = W3 at S2 ⊢
    refine (frameOk_any ⟨fk, fs, fst⟩ W3 (by show fs.size ≤ 1048576; omega)).mono ?_
    rw [HR.out]
    rintro e W4 ⟨rfl, hb⟩
    replace S2 := S2.later hb
    obtain ⟨z0, z1, z2⟩ := fr_box S2.out.1.res
    have q0 := var_frozen S2.out.1.res 0
    have q1 := var_frozen S2.out.1.res 1
    have q2 := var_frozen S2.out.1.res 2
    obtain ⟨d0, d1, d2⟩ := fr_box S2.out.2.out
    have hfin := S2.out.1.below
    clear hb S2 R2
    go_wp2_with fail
    exact bodyPost_ret (v := .tuple #[.agg #[.int .i64 fk, .string fs, .int .i64 fst], .int .i64 (n : Int), .int .i64 0]) (by simp [results, Try.results36, go_sem, z0, z1, z2]) rfl ⟨rfl, put3_below hfin _ _ _⟩
end Go.Proofs.Ytaigdioimldknaa
namespace Go.Proofs.Ytaigdioimldknaa
open Go.RowKit
set_option maxRecDepth 100000
set_option linter.unusedVariables false
def flatFr (xs : List Fr) : List Value := xs.flatMap frC
theorem flatFr_append (xs ys : List Fr) : flatFr (xs ++ ys) = flatFr xs ++ flatFr ys := by simp [flatFr]
theorem flatFr_length (xs : List Fr) : (flatFr xs).length = xs.length * 3 := by
  induction xs with
  | nil => rfl
  | cons x xs ih => rw [show flatFr (x :: xs) = frC x ++ flatFr xs from rfl, List.length_append, ih, List.length_cons, show (frC x).length = 3 from rfl]; omega
theorem flatFr_get : ∀ (xs : List Fr) (k j : Nat) (x : Fr), xs[k]? = some x → j < 3 → (flatFr xs)[k * 3 + j]? = (frC x)[j]? := by
  intro xs
  induction xs with
  | nil => intro k j x h; cases h
  | cons y ys ih =>
    intro k j x h hj
    have hl : (frC y).length = 3 := rfl
    rw [show flatFr (y :: ys) = frC y ++ flatFr ys from rfl]
    cases k with
    | zero =>
      rw [List.getElem?_cons_zero] at h
      injection h with h
      subst h
      rw [List.getElem?_append_left (by omega)]
      simp
    | succ k =>
      rw [List.getElem?_cons_succ] at h
      rw [List.getElem?_append_right (by omega), show (k + 1) * 3 + j - (frC y).length = k * 3 + j by omega]
      exact ih k j x h hj
theorem one_flatFr (xs : List Fr) : ∀ u ∈ flatFr xs, u.oneCell' = true := by
  intro u hu
  obtain ⟨x, _, h⟩ := List.mem_flatMap.1 hu
  simp [frC] at h
  rcases h with rfl | rfl | rfl <;> rfl
/-- A list that lies in memory. -/
def FrAt (w : World) (A : Option Addr) (xs : List Fr) : Prop := Reads w w.heap.size 3 A xs.length (flatFr xs)
instance frAt_keeps (A : Option Addr) (xs : List Fr) : Keeps (fun w => FrAt w A xs) := ⟨fun h x => (Reads.below x h).more h.size⟩
theorem frS_elem {w : World} {A : Option Addr} {xs : List Fr} {k : Nat} (h : FrAt w A xs) (hk : k < xs.length) :
    ∃ b off x, A = some ⟨b, off, none⟩ ∧ b < w.heap.size ∧ xs[k]? = some x ∧ w.cell? ⟨b, off + k * 3, none⟩ = some (.int .i64 x.k) ∧ w.cell? ⟨b, off + k * 3 + 1, none⟩ = some (.string x.s) ∧ w.cell? ⟨b, off + k * 3 + 2, none⟩ = some (.int .i64 x.st) := by
  obtain ⟨hl, hr⟩ := h
  obtain ⟨ad, hA, hb, hc⟩ := hr (by omega)
  obtain ⟨b, off, z⟩ := ad
  have hp : (flatFr xs)[0]? = some _ := List.getElem?_eq_getElem (show 0 < (flatFr xs).length by rw [flatFr_length]; omega)
  have hsp : z = none := by simpa [Addr.add] using World.cell?_spot (hc 0 _ hp)
  subst hsp
  have ea : ∀ j, (⟨b, off, none⟩ : Addr).add j = ⟨b, off + j, none⟩ := fun j => by
    unfold Addr.add
    split <;> simp_all
  have hx := List.getElem?_eq_getElem hk
  have e0 : (flatFr xs)[k * 3]? = some (.int .i64 xs[k].k) := flatFr_get xs k 0 _ hx (by omega)
  have e1 : (flatFr xs)[k * 3 + 1]? = some (.string xs[k].s) := flatFr_get xs k 1 _ hx (by omega)
  have e2 : (flatFr xs)[k * 3 + 2]? = some (.int .i64 xs[k].st) := flatFr_get xs k 2 _ hx (by omega)
  have c0 := hc _ _ e0
  have c1 := hc _ _ e1
  have c2 := hc _ _ e2
  rw [ea] at c0 c1 c2
  exact ⟨b, off, _, hA, hb, hx, c0, c1, c2⟩
def RetFrS (w : World) (xs : List Fr) (e : Ending) (w' : World) : Prop := ∃ A c, e = .returned (.slice A xs.length c) ∧ w'.ownsRow w.heap.size 33 3 (.slice A xs.length c) xs.length (flatFr xs) ∧ Below w.heap.size w w'
theorem frS_own_at {w : World} {base : Nat} {A : Option Addr} {c : Nat} {xs : List Fr} (h : w.ownsRow base 33 3 (.slice A xs.length c) xs.length (flatFr xs)) : FrAt w A xs := Reads.of_own h
theorem Try.infoFrB : (Try.prog.info? 33).map (fun i => (i.zero, i.size, i.bytes)) = some (some (.agg #[.int .i64 0, .string ⟨#[]⟩, .int .i64 0]), 3, 32) := by kernel_rfl
def frsF : Nat → List UInt8 → List Fr × Int
  | 0, _ => ([], 0)
  | k + 1, l => if l.length = 0 then ([], 0) else if (getF l).2.2 ≠ 0 then ([], (getF l).2.2) else ((getF l).1 :: (frsF k (l.drop (getF l).2.1.toNat)).1, (frsF k (l.drop (getF l).2.1.toNat)).2)
def frs (l : List UInt8) : List Fr × Int := frsF l.length l
theorem rdF_ok {l : List UInt8} {n : Nat} (hn1 : 1 ≤ n) (hl : n ≤ l.length) (h5 : gK l = 5 ∨ n ≠ 1 → 2 ≤ n) (hq : lenF l = ((n : Int), 0)) (h : frB (rdF (l.take n)) = true) : putF (rdF (l.take n)) = l.take n := by
  have hl0 : l.length ≠ 0 := by omega
  have hk : ¬ (gK l < 1 ∨ 6 < gK l) := fun hk => by rw [lenF_out hl0 hk] at hq; injection hq with _ h2; cases h2
  obtain ⟨a, t, rfl⟩ : ∃ a t, l = a :: t := by cases l with | nil => exact absurd rfl hl0 | cons a t => exact ⟨a, t, rfl⟩
  have hg : gK (a :: t) = (a.toNat : Int) := rfl
  have ha : u8 (a.toNat : Int) = a := by
    unfold u8
    have := byte_lt a
    rw [Int.emod_eq_of_lt (by omega) (by omega)]
    simp
  by_cases h3 : gK (a :: t) = 3
  · rw [lenF_3 hl0 h3] at hq
    obtain rfl : n = 1 := by injection hq with h1 _; omega
    have e : rdF ((a :: t).take 1) = ⟨3, ⟨#[]⟩, 0⟩ := by
      unfold rdF
      rw [gK_take (Nat.le_refl _), h3, if_neg (by omega), if_neg (by rw [List.length_take]; omega)]
    rw [e, putF_3 rfl rfl]
    show [u8 3] = [a]
    rw [← ha, ← hg, h3]
  by_cases h5' : gK (a :: t) = 5
  · have h2 := h5 (.inl h5')
    rw [lenF_5 hl0 h5'] at hq
    obtain rfl : n = 2 := by injection hq with h1 _; omega
    obtain ⟨b, r, rfl⟩ : ∃ b r, t = b :: r := by cases t with | nil => simp at hl | cons b r => exact ⟨b, r, rfl⟩
    have e : rdF ((a :: b :: r).take 2) = ⟨5, ⟨#[]⟩, (b.toNat : Int)⟩ := by
      unfold rdF
      rw [gK_take (by omega), if_pos h5']
      rfl
    rw [e] at h ⊢
    rw [putF_5 h rfl]
    show [u8 5, u8 (b.toNat : Int)] = [a, b]
    have hb : u8 (b.toNat : Int) = b := by
      unfold u8
      have := byte_lt b
      rw [Int.emod_eq_of_lt (by omega) (by omega)]
      simp
    rw [hb, ← ha, ← hg, h5']
  by_cases hl1 : (a :: t).length = 1
  · rw [lenF_1 hl1 (by omega) h3 h5'] at hq
    injection hq with _ h2; cases h2
  obtain ⟨b, r, rfl⟩ : ∃ b r, t = b :: r := by cases t with | nil => exact absurd rfl hl1 | cons b r => exact ⟨b, r, rfl⟩
  rw [lenF_t (by simp) (by omega) h3 h5'] at hq
  have hgl : gL (a :: b :: r) = b.toNat := rfl
  by_cases hb : 100 < gL (a :: b :: r)
  · rw [if_pos hb] at hq
    injection hq with _ h2; cases h2
  rw [if_neg hb] at hq
  obtain rfl : n = 2 + b.toNat := by injection hq with h1 _; omega
  have htl : ((a :: b :: r).take (2 + b.toNat)) = a :: b :: r.take b.toNat := by rw [Nat.add_comm]; rfl
  have hrl : (r.take b.toNat).length = b.toNat := by rw [List.length_take]; simp at hl; omega
  have e : rdF ((a :: b :: r).take (2 + b.toNat)) = ⟨(a.toNat : Int), ⟨(r.take b.toNat).toArray⟩, 0⟩ := by
    rw [htl]
    unfold rdF
    rw [show gK (a :: b :: r.take b.toNat) = (a.toNat : Int) from rfl, if_neg (by omega), if_pos (by simp)]
    rfl
  rw [e] at h ⊢
  rw [putF_t h (by show (a.toNat : Int) ≠ 5; omega) (by show (a.toNat : Int) ≠ 3; omega), htl]
  have hok := frB_text h
  unfold ptB
  rw [if_pos hok]
  show [u8 (a.toNat : Int)] ++ (u8 ((r.take b.toNat).length : Int) :: r.take b.toNat) = _
  have hbb : u8 (b.toNat : Int) = b := by
    unfold u8
    have := byte_lt b
    rw [Int.emod_eq_of_lt (by omega) (by omega)]
    simp
  rw [ha, hrl, hbb]
  rfl
/-- A frame that is read is right, and its bytes are those that were read. -/
theorem getF_good {l : List UInt8} (h : (getF l).2.2 = 0) : ∃ n : Nat, (getF l).2.1 = (n : Int) ∧ 1 ≤ n ∧ n ≤ l.length ∧ n ≤ 102 ∧ frB (getF l).1 = true ∧ putF (getF l).1 = l.take n := by
  rcases lenF_ways l with ⟨hc, _, _, _, hg⟩ | ⟨n, hq, hn1, hn2, hl0, h5, hshort, hlong⟩
  · rw [hg] at h
    exact absurd h hc
  · by_cases hs : l.length < n
    · rw [hshort hs] at h; cases h
    · have hl := hlong (by omega)
      by_cases hf : frB (rdF (l.take n)) = true
      · rw [if_pos hf] at hl
        rw [hl]
        exact ⟨n, rfl, hn1, by omega, hn2, hf, rdF_ok hn1 (by omega) h5 hq hf⟩
      · rw [if_neg hf] at hl
        rw [hl] at h; cases h
theorem frsF_more : ∀ (k : Nat) (l : List UInt8), l.length ≤ k → ∀ k', l.length ≤ k' → frsF k l = frsF k' l := by
  intro k
  induction k with
  | zero =>
    intro l h k' h'
    have h0 : l.length = 0 := by omega
    cases k' with
    | zero => rfl
    | succ k' => show ([], 0) = (if l.length = 0 then _ else _); rw [if_pos h0]
  | succ k ih =>
    intro l h k' h'
    by_cases h0 : l.length = 0
    · cases k' with
      | zero => show (if l.length = 0 then _ else _) = ([], 0); rw [if_pos h0]
      | succ k' => show (if l.length = 0 then _ else _) = (if l.length = 0 then _ else _); rw [if_pos h0, if_pos h0]
    · cases k' with
      | zero => omega
      | succ k' =>
        show (if l.length = 0 then _ else _) = (if l.length = 0 then _ else _)
        rw [if_neg h0, if_neg h0]
        by_cases hc : (getF l).2.2 ≠ 0
        · rw [if_pos hc, if_pos hc]
        · rw [if_neg hc, if_neg hc]
          obtain ⟨n, hn, hn1, hn2, _⟩ := getF_good (l := l) (by omega)
          have hd : (l.drop (getF l).2.1.toNat).length < l.length := by rw [hn, List.length_drop]; simp; omega
          rw [ih _ (by omega) k' (by omega)]
theorem frs_nil {l : List UInt8} (h : l.length = 0) : frs l = ([], 0) := by unfold frs; rw [h]; rfl
theorem frs_stop {l : List UInt8} (h : l.length ≠ 0) (hc : (getF l).2.2 ≠ 0) : frs l = ([], (getF l).2.2) := by
  obtain ⟨j, hj⟩ : ∃ j, l.length = j + 1 := ⟨l.length - 1, by omega⟩
  unfold frs
  rw [hj]
  show (if l.length = 0 then _ else _) = _
  rw [if_neg h, if_pos hc]
theorem frs_step {l : List UInt8} {n : Nat} (h : l.length ≠ 0) (hc : (getF l).2.2 = 0) (hn : (getF l).2.1 = (n : Int)) : frs l = ((getF l).1 :: (frs (l.drop n)).1, (frs (l.drop n)).2) := by
  obtain ⟨j, hj⟩ : ∃ j, l.length = j + 1 := ⟨l.length - 1, by omega⟩
  obtain ⟨n', hn', hn1, hn2, _⟩ := getF_good hc
  have e : n' = n := by rw [hn'] at hn; omega
  subst e
  have hd : (l.drop n').length ≤ j := by rw [List.length_drop]; omega
  unfold frs
  rw [hj]
  show (if l.length = 0 then _ else _) = _
  rw [if_neg h, if_neg (by rw [hc]; simp), hn', show ((n' : Int)).toNat = n' from rfl, frsF_more j _ hd _ (Nat.le_refl _)]
/-- A row of frames of the call's own. -/
structure FB (w : World) (v : Value) (xs : List Fr) (W : World) : Prop where
  below : Below w.heap.size w W
  own : W.ownsRow w.heap.size 33 3 v xs.length (flatFr xs)
section
variable {w W W' : World} {v v' : Value} {xs ys : List Fr}
theorem FB.new (w : World) : FB w (.slice (some ⟨w.heap.size, 0, none⟩) 0 0) [] (w.alloc (.cells #[] 33)) := ⟨Later.alloc w _, World.ownsRow_lit w #[] 0 (Nat.le_refl _) (by simp [maxLen]) rfl⟩
theorem FB.later (h : FB w v xs W) (hb : Below W.heap.size W W') : FB w v xs W' := ⟨Later.trans h.below hb, ownsRow_below h.own hb (Nat.le_refl _)⟩
theorem FB.push (h : FB w v xs W) (ho : W'.ownsRow w.heap.size 33 3 v' (xs.length + ys.length) (flatFr xs ++ flatFr ys)) (hg : W.grownBy W' v.ownBlock) : FB w v' (xs ++ ys) W' :=
  ⟨h.below.grown hg h.below.size (fun j hj => (h.own.lt j hj).1), by rw [flatFr_append, List.length_append]; exact ho⟩
theorem FB.shape (h : FB w v xs W) : ∃ A c, v = .slice A xs.length c := by
  rcases h.own.2 with ⟨rfl, h0⟩ | ⟨g, cap, cur, rfl, _⟩
  · exact ⟨none, 0, by rw [h0]⟩
  · exact ⟨_, _, rfl⟩
end
def RetFrs (w : World) (p : List Fr × Int) (e : Ending) (w' : World) : Prop := ∃ A c, e = .returned (.tuple #[.slice A p.1.length c, .int .i64 p.2]) ∧ w'.ownsRow w.heap.size 33 3 (.slice A p.1.length c) p.1.length (flatFr p.1) ∧ Below w.heap.size w w'
theorem FB.ret {w W : World} {v : Value} {xs : List Fr} {code : Int} {p : List Fr × Int} (h : FB w v xs W) (h1 : xs = p.1) (h2 : code = p.2) : RetFrs w p (.returned (.tuple #[v, .int .i64 code])) W := by
  subst h1 h2
  obtain ⟨A, c, rfl⟩ := h.shape
  exact ⟨A, c, rfl, h.own, h.below⟩
def slen : Value → Nat
  | .slice _ n _ => n
  | _ => 0
set_option maxHeartbeats 8000000 in
theorem frames_any (A : Option Addr) (c : Nat) (l : List UInt8) (w : World) (h : Reads w w.heap.size 1 A l.length (bys l)) (hn : l.length ≤ 10000000) (hcap : l.length ≤ c) :
    Calls Try.prog 37 #[.slice A l.length c] w (RetFrs w (frs l)) := by
  obtain ⟨i0, hi0, hz0, hz1, hz2⟩ := info_parts Try.info8
  obtain ⟨j0, hj0, jz0, jz1, jz2⟩ := info_parts Try.infoFrB
  have HRD := Lib.hid h
  clear h
  go_enter Try.func37, Try.ntmps37
  have F0 := FB.new w
  go_wp2_with fail
  go_loopw [0, 4] (fun bq q wr => ∃ (v : Value) (A : Option Addr) (c : Nat) (m : List UInt8) (xs : List Fr), bq = .slice A m.length c ∧ m.length ≤ c ∧ q = v ∧ FB w v xs wr ∧ Hid (Reads w w.heap.size 1 A m.length (bys m)) ∧ Hid (xs.length + m.length ≤ l.length ∧ xs ++ (frs m).1 = (frs l).1 ∧ (frs m).2 = (frs l).2)) (fun bq _ _ => slen bq)
  case atStart => exact ⟨_, A, c, l, [], rfl, hcap, rfl, F0, HRD, Lib.hid ⟨by simp, rfl, rfl⟩⟩
  case round =>
    obtain ⟨v, B, d, m, xs, rfl, hmd, rfl, hF, HR, hinv⟩ := hrel
    clear F0
    have hml : m.length ≤ 10000000 := by have := hinv.out.1; omega
    by_cases hm0 : m.length = 0
    · have i1 : ¬ (0 : Int) < (m.length : Int) := by omega
      rw [frs_nil hm0] at hinv
      clear hm0
      go_wp2_with fail
      go_ret2
      exact hF.ret (by have := hinv.out.2.1; simpa using this) hinv.out.2.2
    · have i1 : (0 : Int) < (m.length : Int) := by omega
      obtain ⟨⟨⟨fk, fs, fst⟩, n, code⟩, hp⟩ : ∃ p, getF m = p := ⟨_, rfl⟩
      have HP := Lib.hid hp
      have HM0 := Lib.hid hm0
      clear hp hm0
      go_wp2_with fail
      refine (getFrame_any B d m wr ((HR.out.below hF.below).more hF.below.size) (by omega) hmd).mono ?_
      rw [HP.out]
      rintro e W1 ⟨h9, hb⟩
      replace h9 : e = .returned (.tuple #[.agg #[.int .i64 fk, .string fs, .int .i64 fst], .int .i64 n, .int .i64 code]) := h9
      subst h9
      replace hF := hF.later hb
      clear hb
      by_cases hc : code = 0
      · subst hc
        obtain ⟨n', hn', hn1, hn2, _⟩ := getF_good (l := m) (by rw [HP.out])
        rw [HP.out] at hn'
        obtain rfl : n = (n' : Int) := hn'
        have hst := frs_step HM0.out (by rw [HP.out]) (by rw [HP.out])
        rw [HP.out] at hst
        have hxm := hinv.out.1
        have HN : Hid ((xs ++ [(⟨fk, fs, fst⟩ : Fr)]).length + (m.drop n').length ≤ l.length ∧ (xs ++ [(⟨fk, fs, fst⟩ : Fr)]) ++ (frs (m.drop n')).1 = (frs l).1 ∧ (frs (m.drop n')).2 = (frs l).2) := by
          have h3 := hinv.out
          rw [hst] at h3
          have h4 : (xs ++ [(⟨fk, fs, fst⟩ : Fr)]).length + (m.drop n').length ≤ l.length := by rw [List.length_append, List.length_singleton, List.length_drop]; have := h3.1; omega
          have h5 : (xs ++ [(⟨fk, fs, fst⟩ : Fr)]) ++ (frs (m.drop n')).1 = (frs l).1 := by rw [← h3.2.1]; simp
          exact Lib.hid ⟨h4, h5, h3.2.2⟩
        have hxl : xs.length ≤ 10000000 := by omega
        clear hst hinv hxm
        have F2 := hF.later (Later.alloc _ (.cells #[.int .i64 fk, .string fs, .int .i64 fst] 33))
        have F3 := F2.later (Later.alloc _ (.cells (flatFr [⟨fk, fs, fst⟩]).toArray 33))
        have hnew := reads_lit (W1.alloc (.cells #[.int .i64 fk, .string fs, .int .i64 fst] 33)) (flatFr [⟨fk, fs, fst⟩]).toArray 3 1 33 (g := W1.heap.size + 1) (by simp) rfl (by simp [maxLen])
        obtain ⟨A', hrun, hrd⟩ := slice_readsF Try.underlying22 hi0 hz1 (A := B) (n := m.length) (c := d) (lo := n') .i64 hn2 hmd
        have HR2 := Lib.hid (hrd HR.out)
        have hdl : (m.drop n').length = m.length - n' := List.length_drop
        clear hF F2 hrd
        have hsl := fun w => hrun w
        clear hrun
        have HDL := Lib.hid hdl
        clear hdl
        go_wp2_with (at_builtin
                     go_must (refine wpList_append_any _ rfl (.tmp 22) (.tmp 24) _ rfl w.heap.size 33 j0 _ 3 32 Try.underlying52 hj0 jz0 jz1 jz2 rfl (by omega) _ xs.length (flatFr xs) rfl F3.own _ _ 1 _ (flatFr [⟨fk, fs, fst⟩]) rfl hnew (one_flatFr _) (by simp only [maxLen]; omega) (by omega) F3.below.size ?_)
                     intro v4 W4 own4 hg4 _
                     have F4 := F3.push (ys := [⟨fk, fs, fst⟩]) own4 hg4
                     clear hnew F3 own4 hg4)
        go_roundw
        case rel => exact ⟨_, A', d - n', m.drop n', _, by rw [HDL.out], by rw [HDL.out]; omega, rfl, F4, Lib.hid (by rw [HDL.out]; exact HR2.out), HN⟩
        case measure => simp [slen]; omega
      · have tc : (code != 0) = true := by simpa using hc
        have hfs := frs_stop HM0.out (by rw [HP.out]; exact hc)
        rw [hfs, HP.out] at hinv
        have HF2 := Lib.hid (hF.later (Later.alloc _ (.cells #[.int .i64 fk, .string fs, .int .i64 fst] 33)))
        clear hfs hc hF
        go_wp2_with fail
        go_ret2
        exact HF2.out.ret (by have := hinv.out.2.1; simpa using this) hinv.out.2.2
theorem u8_back {n : Nat} (h : n ≤ 255) : (u8 (n : Int)).toNat = n := by
  have := u8_cell (n : Int)
  omega
theorem getF_cons {a b : UInt8} {r : List UInt8} {k : Int} (hk : (a.toNat : Int) = k) (h : k = 1 ∨ k = 2 ∨ k = 4 ∨ k = 6) :
    getF (a :: b :: r) = if 100 < b.toNat then badF else if r.length < b.toNat then waitF else if frB ⟨k, ⟨(r.take b.toNat).toArray⟩, 0⟩ = true then (⟨k, ⟨(r.take b.toNat).toArray⟩, 0⟩, 2 + (b.toNat : Int), 0) else badF := by
  have hg : gK (a :: b :: r) = k := hk
  rw [getF_t (by simp) (by omega) (by omega) (by omega)]
  have hl : gL (a :: b :: r) = b.toNat := rfl
  have ht : txF (a :: b :: r) = ⟨k, ⟨(r.take b.toNat).toArray⟩, 0⟩ := by unfold txF; rw [hg, hl]; rfl
  rw [hl, ht]
  have e : ((a :: b :: r).length < 2 + b.toNat) = (r.length < b.toNat) := by simp; omega
  simp only [e]
theorem put_text {k : Int} {s : ByteArray} {st : Int} (h : frB ⟨k, s, st⟩ = true) (hk : k = 1 ∨ k = 2 ∨ k = 4 ∨ k = 6) : putF ⟨k, s, st⟩ = u8 k :: u8 (s.data.toList.length : Int) :: s.data.toList ∧ st = 0 ∧ s.data.toList.length ≤ 100 := by
  have hok := frB_text h
  refine ⟨?_, ?_, okB_len hok⟩
  · rw [putF_t h (by show k ≠ 5; omega) (by show k ≠ 3; omega)]
    show ptB [u8 k] s.data.toList = _
    unfold ptB
    rw [if_pos hok]
    rfl
  · rcases hk with rfl | rfl | rfl | rfl
    · rw [frB_1, Bool.and_eq_true] at h; exact eq_of_beq h.2
    · rw [frB_2, Bool.and_eq_true] at h; exact eq_of_beq h.2
    · rw [frB_4, Bool.and_eq_true] at h; exact eq_of_beq h.2
    · rw [frB_6, Bool.and_eq_true] at h; exact eq_of_beq h.2
theorem u8_kind {k : Int} (h : k = 1 ∨ k = 2 ∨ k = 4 ∨ k = 6) : ((u8 k).toNat : Int) = k := by
  rw [u8_cell]; omega
/-- A frame comes back of its bytes, whatever is behind them. -/
theorem getF_put {f : Fr} (h : frB f = true) (t : List UInt8) : getF (putF f ++ t) = (f, ((putF f).length : Int), 0) := by
  obtain ⟨k, s, st⟩ := f
  have hkk := frB_kind h
  replace hkk : 1 ≤ k ∧ k ≤ 6 := hkk
  by_cases h3 : k = 3
  · subst h3
    rw [frB_3, Bool.and_eq_true] at h
    obtain rfl := (empty_iff s).1 h.1
    obtain rfl : st = 0 := eq_of_beq h.2
    rw [putF_3 rfl rfl, getF_3 (by simp) rfl]
    rfl
  by_cases h5 : k = 5
  · subst h5
    have hst := frB_st h
    have h0 := h
    rw [frB_5, Bool.and_eq_true] at h
    obtain rfl := (empty_iff s).1 h.1
    replace hst : 0 ≤ st ∧ st ≤ 2 := hst
    rw [putF_5 h0 rfl, getF_5 (by simp) rfl]
    have hl : gL ([u8 5] ++ [u8 st] ++ t) = st.toNat := by
      show (u8 st).toNat = st.toNat
      have := u8_cell st
      omega
    rw [show gL ([u8 (⟨5, ⟨#[]⟩, st⟩ : Fr).k] ++ [u8 (⟨5, ⟨#[]⟩, st⟩ : Fr).st] ++ t) = st.toNat from hl, if_pos (by omega)]
    have e : ((st.toNat : Nat) : Int) = st := by omega
    rw [e]
    rfl
  have hk : k = 1 ∨ k = 2 ∨ k = 4 ∨ k = 6 := by omega
  obtain ⟨hp, rfl, hle⟩ := put_text h hk
  rw [hp]
  show getF (u8 k :: u8 (s.data.toList.length : Int) :: (s.data.toList ++ t)) = _
  rw [getF_cons (u8_kind hk) hk, u8_back (by omega), if_neg (by omega), if_neg (by simp), List.take_left', if_pos h]
  · simp; omega
  · rfl
def qBegin : ByteArray := ⟨#[98, 101, 103, 105, 110]⟩
def qCommit : ByteArray := ⟨#[99, 111, 109, 109, 105, 116]⟩
def qBack : ByteArray := ⟨#[114, 111, 108, 108, 98, 97, 99, 107]⟩
def qFail : ByteArray := ⟨#[102, 97, 105, 108]⟩
def wordQ (q : ByteArray) : Int :=
  if q = qBegin then 1 else if q = qCommit then 2 else if q = qBack then 3 else if q = qFail then 4 else 0
theorem wordQ_in (q : ByteArray) : 0 ≤ wordQ q ∧ wordQ q ≤ 4 := by
  unfold wordQ
  split
  · decide
  · split
    · decide
    · split
      · decide
      · split <;> decide
theorem is_list {a : ByteArray} {l : List UInt8} (h : a = ⟨l.toArray⟩) : (a.toList == l) = true := by
  subst h
  rw [ByteArray.toList_mk]
  simp
theorem ne_list {a : ByteArray} {l : List UInt8} (h : a ≠ ⟨l.toArray⟩) : (a.toList == l) = false := by
  by_cases h' : (a.toList == l) = true
  · exact absurd (list_bytes (a := a) (b := ⟨l.toArray⟩) (by rw [ByteArray.toList_mk l]; exact h')) h
  · simpa using h'
set_option maxHeartbeats 1000000 in
theorem wordOf_any (q : ByteArray) (w : World) : Calls Try.prog 39 #[.string q] w fun e w' => e = .returned (.int .i64 (wordQ q)) ∧ w = w' := by
  by_cases h1 : q = qBegin
  · have e1 : (q.toList == [98, 101, 103, 105, 110]) = true := is_list h1
    have E : wordQ q = 1 := by unfold wordQ; rw [if_pos h1]
    rw [E]
    clear E h1
    go_enter Try.func39, Try.ntmps39
    go_wp2
    go_ret
    exact ⟨rfl, rfl⟩
  · by_cases h2 : q = qCommit
    · have e2 : (q.toList == [99, 111, 109, 109, 105, 116]) = true := is_list h2
      have e1 : (q.toList == [98, 101, 103, 105, 110]) = false := ne_list h1
      have E : wordQ q = 2 := by unfold wordQ; rw [if_neg h1, if_pos h2]
      rw [E]
      clear E h1 h2
      go_enter Try.func39, Try.ntmps39
      go_wp2
      go_ret
      exact ⟨rfl, rfl⟩
    · by_cases h3 : q = qBack
      · have e3 : (q.toList == [114, 111, 108, 108, 98, 97, 99, 107]) = true := is_list h3
        have e1 : (q.toList == [98, 101, 103, 105, 110]) = false := ne_list h1
        have e2 : (q.toList == [99, 111, 109, 109, 105, 116]) = false := ne_list h2
        have E : wordQ q = 3 := by unfold wordQ; rw [if_neg h1, if_neg h2, if_pos h3]
        rw [E]
        clear E h1 h2 h3
        go_enter Try.func39, Try.ntmps39
        go_wp2
        go_ret
        exact ⟨rfl, rfl⟩
      · by_cases h4 : q = qFail
        · have e4 : (q.toList == [102, 97, 105, 108]) = true := is_list h4
          have e1 : (q.toList == [98, 101, 103, 105, 110]) = false := ne_list h1
          have e2 : (q.toList == [99, 111, 109, 109, 105, 116]) = false := ne_list h2
          have e3 : (q.toList == [114, 111, 108, 108, 98, 97, 99, 107]) = false := ne_list h3
          have E : wordQ q = 4 := by unfold wordQ; rw [if_neg h1, if_neg h2, if_neg h3, if_pos h4]
          rw [E]
          clear E h1 h2 h3 h4
          go_enter Try.func39, Try.ntmps39
          go_wp2
          go_ret
          exact ⟨rfl, rfl⟩
        · have e1 : (q.toList == [98, 101, 103, 105, 110]) = false := ne_list h1
          have e2 : (q.toList == [99, 111, 109, 109, 105, 116]) = false := ne_list h2
          have e3 : (q.toList == [114, 111, 108, 108, 98, 97, 99, 107]) = false := ne_list h3
          have e4 : (q.toList == [102, 97, 105, 108]) = false := ne_list h4
          have E : wordQ q = 0 := by unfold wordQ; rw [if_neg h1, if_neg h2, if_neg h3, if_neg h4]
          rw [E]
          clear E h1 h2 h3 h4
          go_enter Try.func39, Try.ntmps39
          go_wp2
          go_ret
          exact ⟨rfl, rfl⟩
-- (written by gen_tog.py)
set_option maxHeartbeats 1000000 in
theorem wordOfS_any (q : ByteArray) (w : World) : Calls Try.prog 97 #[.string q] w fun e w' => e = .returned (.int .i64 (wordQ q)) ∧ w = w' := by
  by_cases h1 : q = qBegin
  · have e1 : (q.toList == [98, 101, 103, 105, 110]) = true := is_list h1
    have E : wordQ q = 1 := by unfold wordQ; rw [if_pos h1]
    rw [E]
    clear E h1
    go_enter Try.func97, Try.ntmps97
    go_wp2
    go_ret
    exact ⟨rfl, rfl⟩
  · by_cases h2 : q = qCommit
    · have e2 : (q.toList == [99, 111, 109, 109, 105, 116]) = true := is_list h2
      have e1 : (q.toList == [98, 101, 103, 105, 110]) = false := ne_list h1
      have E : wordQ q = 2 := by unfold wordQ; rw [if_neg h1, if_pos h2]
      rw [E]
      clear E h1 h2
      go_enter Try.func97, Try.ntmps97
      go_wp2
      go_ret
      exact ⟨rfl, rfl⟩
    · by_cases h3 : q = qBack
      · have e3 : (q.toList == [114, 111, 108, 108, 98, 97, 99, 107]) = true := is_list h3
        have e1 : (q.toList == [98, 101, 103, 105, 110]) = false := ne_list h1
        have e2 : (q.toList == [99, 111, 109, 109, 105, 116]) = false := ne_list h2
        have E : wordQ q = 3 := by unfold wordQ; rw [if_neg h1, if_neg h2, if_pos h3]
        rw [E]
        clear E h1 h2 h3
        go_enter Try.func97, Try.ntmps97
        go_wp2
        go_ret
        exact ⟨rfl, rfl⟩
      · by_cases h4 : q = qFail
        · have e4 : (q.toList == [102, 97, 105, 108]) = true := is_list h4
          have e1 : (q.toList == [98, 101, 103, 105, 110]) = false := ne_list h1
          have e2 : (q.toList == [99, 111, 109, 109, 105, 116]) = false := ne_list h2
          have e3 : (q.toList == [114, 111, 108, 108, 98, 97, 99, 107]) = false := ne_list h3
          have E : wordQ q = 4 := by unfold wordQ; rw [if_neg h1, if_neg h2, if_neg h3, if_pos h4]
          rw [E]
          clear E h1 h2 h3 h4
          go_enter Try.func97, Try.ntmps97
          go_wp2
          go_ret
          exact ⟨rfl, rfl⟩
        · have e1 : (q.toList == [98, 101, 103, 105, 110]) = false := ne_list h1
          have e2 : (q.toList == [99, 111, 109, 109, 105, 116]) = false := ne_list h2
          have e3 : (q.toList == [114, 111, 108, 108, 98, 97, 99, 107]) = false := ne_list h3
          have e4 : (q.toList == [102, 97, 105, 108]) = false := ne_list h4
          have E : wordQ q = 0 := by unfold wordQ; rw [if_neg h1, if_neg h2, if_neg h3, if_neg h4]
          rw [E]
          clear E h1 h2 h3 h4
          go_enter Try.func97, Try.ntmps97
          go_wp2
          go_ret
          exact ⟨rfl, rfl⟩
/-- The status behind a query. -/
def nextS (st w : Int) : Int :=
  if st = 0 then (if w = 1 then 1 else 0)
  else if st = 1 then (if w = 4 then 2 else if w = 2 ∨ w = 3 then 0 else 1)
  else if st = 2 then (if w = 2 ∨ w = 3 then 0 else 2)
  else 0
theorem nextS_in (st w : Int) : 0 ≤ nextS st w ∧ nextS st w ≤ 2 := by
  unfold nextS
  repeat' split
  all_goals decide
theorem st_cases (st : Int) : st = 0 ∨ st = 1 ∨ st = 2 ∨ (st ≠ 0 ∧ st ≠ 1 ∧ st ≠ 2) := by omega
theorem w_cases (w : Int) : w = 1 ∨ w = 2 ∨ w = 3 ∨ w = 4 ∨ (w ≠ 1 ∧ w ≠ 2 ∧ w ≠ 3 ∧ w ≠ 4) := by omega
theorem beq_no {a b : Int} (h : a ≠ b) : (a == b) = false := by simpa using h
theorem ends_any (v : Int) (w : World) : Calls Try.prog 101 #[.int .i64 v] w fun e w' => e = .returned (.bool (decide (v = 2 ∨ v = 3))) ∧ w = w' := by
  rcases w_cases v with rfl | rfl | rfl | rfl | ⟨h1, h2, h3, h4⟩
  rotate_right
  · have b2 := beq_no h2
    have b3 := beq_no h3
    have E : decide (v = 2 ∨ v = 3) = false := by simp; omega
    rw [E]
    clear E h1 h2 h3 h4
    go_enter Try.func101, Try.ntmps101
    go_wp2
    go_ret
    exact ⟨rfl, rfl⟩
  all_goals
    go_enter Try.func101, Try.ntmps101
    go_wp2
    go_ret
    exact ⟨rfl, rfl⟩
set_option maxHeartbeats 4000000 in
theorem nextSt_any (st v : Int) (w : World) : Calls Try.prog 38 #[.int .i64 st, .int .i64 v] w fun e w' => e = .returned (.int .i64 (nextS st v)) ∧ w = w' := by
  rcases st_cases st with rfl | rfl | rfl | ⟨s0, s1, s2⟩
  · rcases w_cases v with rfl | rfl | rfl | rfl | ⟨h1, h2, h3, h4⟩
    · skip
      have E : nextS 0 1 = 1 := by decide
      rw [E]
      clear E
      go_enter Try.func38, Try.ntmps38
      go_wp2_with (first | (go_at_call 101; go_in) | fail)
      go_ret
      exact ⟨rfl, rfl⟩
    · skip
      have E : nextS 0 2 = 0 := by decide
      rw [E]
      clear E
      go_enter Try.func38, Try.ntmps38
      go_wp2_with (first | (go_at_call 101; go_in) | fail)
      go_ret
      exact ⟨rfl, rfl⟩
    · skip
      have E : nextS 0 3 = 0 := by decide
      rw [E]
      clear E
      go_enter Try.func38, Try.ntmps38
      go_wp2_with (first | (go_at_call 101; go_in) | fail)
      go_ret
      exact ⟨rfl, rfl⟩
    · skip
      have E : nextS 0 4 = 0 := by decide
      rw [E]
      clear E
      go_enter Try.func38, Try.ntmps38
      go_wp2_with (first | (go_at_call 101; go_in) | fail)
      go_ret
      exact ⟨rfl, rfl⟩
    · have b1 := beq_no h1; have b2 := beq_no h2; have b3 := beq_no h3; have b4 := beq_no h4
      have E : nextS (0) v = 0 := by unfold nextS; (repeat' split) <;> first | rfl | omega
      rw [E]
      clear E h1 h2 h3 h4
      go_enter Try.func38, Try.ntmps38
      go_wp2_with (first | (go_at_call 101; go_in) | fail)
      go_ret
      exact ⟨rfl, rfl⟩
  · rcases w_cases v with rfl | rfl | rfl | rfl | ⟨h1, h2, h3, h4⟩
    · skip
      have E : nextS 1 1 = 1 := by decide
      rw [E]
      clear E
      go_enter Try.func38, Try.ntmps38
      go_wp2_with (first | (go_at_call 101; go_in) | fail)
      go_ret
      exact ⟨rfl, rfl⟩
    · skip
      have E : nextS 1 2 = 0 := by decide
      rw [E]
      clear E
      go_enter Try.func38, Try.ntmps38
      go_wp2_with (first | (go_at_call 101; go_in) | fail)
      go_ret
      exact ⟨rfl, rfl⟩
    · skip
      have E : nextS 1 3 = 0 := by decide
      rw [E]
      clear E
      go_enter Try.func38, Try.ntmps38
      go_wp2_with (first | (go_at_call 101; go_in) | fail)
      go_ret
      exact ⟨rfl, rfl⟩
    · skip
      have E : nextS 1 4 = 2 := by decide
      rw [E]
      clear E
      go_enter Try.func38, Try.ntmps38
      go_wp2_with (first | (go_at_call 101; go_in) | fail)
      go_ret
      exact ⟨rfl, rfl⟩
    · have b1 := beq_no h1; have b2 := beq_no h2; have b3 := beq_no h3; have b4 := beq_no h4
      have E : nextS (1) v = 1 := by unfold nextS; (repeat' split) <;> first | rfl | omega
      rw [E]
      clear E h1 h2 h3 h4
      go_enter Try.func38, Try.ntmps38
      go_wp2_with (first | (go_at_call 101; go_in) | fail)
      go_ret
      exact ⟨rfl, rfl⟩
  · rcases w_cases v with rfl | rfl | rfl | rfl | ⟨h1, h2, h3, h4⟩
    · skip
      have E : nextS 2 1 = 2 := by decide
      rw [E]
      clear E
      go_enter Try.func38, Try.ntmps38
      go_wp2_with (first | (go_at_call 101; go_in) | fail)
      go_ret
      exact ⟨rfl, rfl⟩
    · skip
      have E : nextS 2 2 = 0 := by decide
      rw [E]
      clear E
      go_enter Try.func38, Try.ntmps38
      go_wp2_with (first | (go_at_call 101; go_in) | fail)
      go_ret
      exact ⟨rfl, rfl⟩
    · skip
      have E : nextS 2 3 = 0 := by decide
      rw [E]
      clear E
      go_enter Try.func38, Try.ntmps38
      go_wp2_with (first | (go_at_call 101; go_in) | fail)
      go_ret
      exact ⟨rfl, rfl⟩
    · skip
      have E : nextS 2 4 = 2 := by decide
      rw [E]
      clear E
      go_enter Try.func38, Try.ntmps38
      go_wp2_with (first | (go_at_call 101; go_in) | fail)
      go_ret
      exact ⟨rfl, rfl⟩
    · have b1 := beq_no h1; have b2 := beq_no h2; have b3 := beq_no h3; have b4 := beq_no h4
      have E : nextS (2) v = 2 := by unfold nextS; (repeat' split) <;> first | rfl | omega
      rw [E]
      clear E h1 h2 h3 h4
      go_enter Try.func38, Try.ntmps38
      go_wp2_with (first | (go_at_call 101; go_in) | fail)
      go_ret
      exact ⟨rfl, rfl⟩
  · rcases w_cases v with rfl | rfl | rfl | rfl | ⟨h1, h2, h3, h4⟩
    · skip
      have a0 := beq_no s0; have a1 := beq_no s1; have a2 := beq_no s2
      have E : nextS (st) 1 = 0 := by unfold nextS; (repeat' split) <;> first | rfl | omega
      rw [E]
      clear E s0 s1 s2
      go_enter Try.func38, Try.ntmps38
      go_wp2_with (first | (go_at_call 101; go_in) | fail)
      go_ret
      exact ⟨rfl, rfl⟩
    · skip
      have a0 := beq_no s0; have a1 := beq_no s1; have a2 := beq_no s2
      have E : nextS (st) 2 = 0 := by unfold nextS; (repeat' split) <;> first | rfl | omega
      rw [E]
      clear E s0 s1 s2
      go_enter Try.func38, Try.ntmps38
      go_wp2_with (first | (go_at_call 101; go_in) | fail)
      go_ret
      exact ⟨rfl, rfl⟩
    · skip
      have a0 := beq_no s0; have a1 := beq_no s1; have a2 := beq_no s2
      have E : nextS (st) 3 = 0 := by unfold nextS; (repeat' split) <;> first | rfl | omega
      rw [E]
      clear E s0 s1 s2
      go_enter Try.func38, Try.ntmps38
      go_wp2_with (first | (go_at_call 101; go_in) | fail)
      go_ret
      exact ⟨rfl, rfl⟩
    · skip
      have a0 := beq_no s0; have a1 := beq_no s1; have a2 := beq_no s2
      have E : nextS (st) 4 = 0 := by unfold nextS; (repeat' split) <;> first | rfl | omega
      rw [E]
      clear E s0 s1 s2
      go_enter Try.func38, Try.ntmps38
      go_wp2_with (first | (go_at_call 101; go_in) | fail)
      go_ret
      exact ⟨rfl, rfl⟩
    · have b1 := beq_no h1; have b2 := beq_no h2; have b3 := beq_no h3; have b4 := beq_no h4
      have a0 := beq_no s0; have a1 := beq_no s1; have a2 := beq_no s2
      have E : nextS (st) v = 0 := by unfold nextS; (repeat' split) <;> first | rfl | omega
      rw [E]
      clear E h1 h2 h3 h4 s0 s1 s2
      go_enter Try.func38, Try.ntmps38
      go_wp2_with (first | (go_at_call 101; go_in) | fail)
      go_ret
      exact ⟨rfl, rfl⟩
set_option maxHeartbeats 4000000 in
theorem nextStS_any (st v : Int) (w : World) : Calls Try.prog 96 #[.int .i64 st, .int .i64 v] w fun e w' => e = .returned (.int .i64 (nextS st v)) ∧ w = w' := by
  rcases st_cases st with rfl | rfl | rfl | ⟨s0, s1, s2⟩
  · rcases w_cases v with rfl | rfl | rfl | rfl | ⟨h1, h2, h3, h4⟩
    · skip
      have E : nextS 0 1 = 1 := by decide
      rw [E]
      clear E
      go_enter Try.func96, Try.ntmps96
      go_wp2_with fail
      go_ret
      exact ⟨rfl, rfl⟩
    · skip
      have E : nextS 0 2 = 0 := by decide
      rw [E]
      clear E
      go_enter Try.func96, Try.ntmps96
      go_wp2_with fail
      go_ret
      exact ⟨rfl, rfl⟩
    · skip
      have E : nextS 0 3 = 0 := by decide
      rw [E]
      clear E
      go_enter Try.func96, Try.ntmps96
      go_wp2_with fail
      go_ret
      exact ⟨rfl, rfl⟩
    · skip
      have E : nextS 0 4 = 0 := by decide
      rw [E]
      clear E
      go_enter Try.func96, Try.ntmps96
      go_wp2_with fail
      go_ret
      exact ⟨rfl, rfl⟩
    · have b1 := beq_no h1; have b2 := beq_no h2; have b3 := beq_no h3; have b4 := beq_no h4
      have E : nextS (0) v = 0 := by unfold nextS; (repeat' split) <;> first | rfl | omega
      rw [E]
      clear E h1 h2 h3 h4
      go_enter Try.func96, Try.ntmps96
      go_wp2_with fail
      go_ret
      exact ⟨rfl, rfl⟩
  · rcases w_cases v with rfl | rfl | rfl | rfl | ⟨h1, h2, h3, h4⟩
    · skip
      have E : nextS 1 1 = 1 := by decide
      rw [E]
      clear E
      go_enter Try.func96, Try.ntmps96
      go_wp2_with fail
      go_ret
      exact ⟨rfl, rfl⟩
    · skip
      have E : nextS 1 2 = 0 := by decide
      rw [E]
      clear E
      go_enter Try.func96, Try.ntmps96
      go_wp2_with fail
      go_ret
      exact ⟨rfl, rfl⟩
    · skip
      have E : nextS 1 3 = 0 := by decide
      rw [E]
      clear E
      go_enter Try.func96, Try.ntmps96
      go_wp2_with fail
      go_ret
      exact ⟨rfl, rfl⟩
    · skip
      have E : nextS 1 4 = 2 := by decide
      rw [E]
      clear E
      go_enter Try.func96, Try.ntmps96
      go_wp2_with fail
      go_ret
      exact ⟨rfl, rfl⟩
    · have b1 := beq_no h1; have b2 := beq_no h2; have b3 := beq_no h3; have b4 := beq_no h4
      have E : nextS (1) v = 1 := by unfold nextS; (repeat' split) <;> first | rfl | omega
      rw [E]
      clear E h1 h2 h3 h4
      go_enter Try.func96, Try.ntmps96
      go_wp2_with fail
      go_ret
      exact ⟨rfl, rfl⟩
  · rcases w_cases v with rfl | rfl | rfl | rfl | ⟨h1, h2, h3, h4⟩
    · skip
      have E : nextS 2 1 = 2 := by decide
      rw [E]
      clear E
      go_enter Try.func96, Try.ntmps96
      go_wp2_with fail
      go_ret
      exact ⟨rfl, rfl⟩
    · skip
      have E : nextS 2 2 = 0 := by decide
      rw [E]
      clear E
      go_enter Try.func96, Try.ntmps96
      go_wp2_with fail
      go_ret
      exact ⟨rfl, rfl⟩
    · skip
      have E : nextS 2 3 = 0 := by decide
      rw [E]
      clear E
      go_enter Try.func96, Try.ntmps96
      go_wp2_with fail
      go_ret
      exact ⟨rfl, rfl⟩
    · skip
      have E : nextS 2 4 = 2 := by decide
      rw [E]
      clear E
      go_enter Try.func96, Try.ntmps96
      go_wp2_with fail
      go_ret
      exact ⟨rfl, rfl⟩
    · have b1 := beq_no h1; have b2 := beq_no h2; have b3 := beq_no h3; have b4 := beq_no h4
      have E : nextS (2) v = 2 := by unfold nextS; (repeat' split) <;> first | rfl | omega
      rw [E]
      clear E h1 h2 h3 h4
      go_enter Try.func96, Try.ntmps96
      go_wp2_with fail
      go_ret
      exact ⟨rfl, rfl⟩
  · rcases w_cases v with rfl | rfl | rfl | rfl | ⟨h1, h2, h3, h4⟩
    · skip
      have a0 := beq_no s0; have a1 := beq_no s1; have a2 := beq_no s2
      have E : nextS (st) 1 = 0 := by unfold nextS; (repeat' split) <;> first | rfl | omega
      rw [E]
      clear E s0 s1 s2
      go_enter Try.func96, Try.ntmps96
      go_wp2_with fail
      go_ret
      exact ⟨rfl, rfl⟩
    · skip
      have a0 := beq_no s0; have a1 := beq_no s1; have a2 := beq_no s2
      have E : nextS (st) 2 = 0 := by unfold nextS; (repeat' split) <;> first | rfl | omega
      rw [E]
      clear E s0 s1 s2
      go_enter Try.func96, Try.ntmps96
      go_wp2_with fail
      go_ret
      exact ⟨rfl, rfl⟩
    · skip
      have a0 := beq_no s0; have a1 := beq_no s1; have a2 := beq_no s2
      have E : nextS (st) 3 = 0 := by unfold nextS; (repeat' split) <;> first | rfl | omega
      rw [E]
      clear E s0 s1 s2
      go_enter Try.func96, Try.ntmps96
      go_wp2_with fail
      go_ret
      exact ⟨rfl, rfl⟩
    · skip
      have a0 := beq_no s0; have a1 := beq_no s1; have a2 := beq_no s2
      have E : nextS (st) 4 = 0 := by unfold nextS; (repeat' split) <;> first | rfl | omega
      rw [E]
      clear E s0 s1 s2
      go_enter Try.func96, Try.ntmps96
      go_wp2_with fail
      go_ret
      exact ⟨rfl, rfl⟩
    · have b1 := beq_no h1; have b2 := beq_no h2; have b3 := beq_no h3; have b4 := beq_no h4
      have a0 := beq_no s0; have a1 := beq_no s1; have a2 := beq_no s2
      have E : nextS (st) v = 0 := by unfold nextS; (repeat' split) <;> first | rfl | omega
      rw [E]
      clear E h1 h2 h3 h4 s0 s1 s2
      go_enter Try.func96, Try.ntmps96
      go_wp2_with fail
      go_ret
      exact ⟨rfl, rfl⟩
end Go.Proofs.Ytaigdioimldknaa
