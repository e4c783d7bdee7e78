/- GetFrame: what bytes give, in plain lists; GetFrame of the model and of the program. -/
import Derived.Test.YtcelkmphdeaaeaaPutFrame
namespace Go.Proofs.Ytcelkmphdeaaeaa
open Go.RowKit
set_option linter.unusedVariables false

/-- 's[lo:]' of a slice of bytes. -/
theorem slice_readsF {P : Program} {t e : TypeId} {i : TypeInfo} (ht : P.underlying t = some (.slice e)) (hi : P.info? e = some i) (hs : i.size = 1)
    {A : Option Addr} {n c lo : Nat} (k : IntKind) (h1 : lo ≤ n) (h3 : n ≤ c) :
    ∃ A', (∀ w, (Instr.slice t (.slice A n c) (some (.int k (lo : Int))) none none).run P w = .ok (.slice A' (n - lo) (c - lo)) w) ∧
      ∀ {w : World} {B : Nat} {l : List UInt8}, Reads w B 1 A n (bys l) → Reads w B 1 A' (n - lo) (bys (l.drop lo)) := by
  refine ⟨if c = lo then A else A.map (·.add lo), fun w => ?_, fun {w B l} hr => ?_⟩
  · have a3 : (0 : Int) ≤ lo := by omega
    have hz := sizeOf_run (P := P) (e := e) w hi
    simp [Instr.slice, run_underlying ht, Instr.sliceBounds, Instr.sliceBound, asIntOf, h1, hz, hs, go_sem]
  · have hc := hr.cut (k := lo) (cap := c) (by omega) h3
    simp only [Nat.mul_one] at hc
    rw [show bys (l.drop lo) = (bys l).drop lo by simp [bys, List.map_drop]]
    exact hc

def gK (l : List UInt8) : Int := ((l.getD 0 0).toNat : Int)
def gL (l : List UInt8) : Nat := (l.getD 1 0).toNat
def waitF : Fr × Int × Int := (zeroFr, 0, 1)
def badF : Fr × Int × Int := (zeroFr, 0, 2)
def txF (l : List UInt8) : Fr := ⟨gK l, ⟨((l.drop 2).take (gL l)).toArray⟩, 0⟩
def getF (l : List UInt8) : Fr × Int × Int :=
  if l.length = 0 then waitF
  else if gK l < 1 ∨ 6 < gK l then badF
  else if gK l = 3 then (⟨3, ⟨#[]⟩, 0⟩, 1, 0)
  else if l.length = 1 then waitF
  else if gK l = 5 then (if gL l ≤ 2 then (⟨5, ⟨#[]⟩, (gL l : Int)⟩, 2, 0) else badF)
  else if 100 < gL l then badF
  else if l.length < 2 + gL l then waitF
  else if frB (txF l) = true then (txF l, 2 + (gL l : Int), 0) else badF
def RetGetF (w : World) (p : Fr × Int × Int) (e : Ending) (w' : World) : Prop := e = .returned (.tuple #[.agg (frC p.1).toArray, .int .i64 p.2.1, .int .i64 p.2.2]) ∧ Below w.heap.size w w'

theorem getF_nil {l : List UInt8} (h : l.length = 0) : getF l = waitF := if_pos h
theorem getF_out {l : List UInt8} (h : l.length ≠ 0) (hk : gK l < 1 ∨ 6 < gK l) : getF l = badF := by
  unfold getF; rw [if_neg h, if_pos hk]
theorem getF_3 {l : List UInt8} (h : l.length ≠ 0) (hk : gK l = 3) : getF l = (⟨3, ⟨#[]⟩, 0⟩, 1, 0) := by
  unfold getF; rw [if_neg h, if_neg (by omega), if_pos hk]
theorem getF_1 {l : List UInt8} (h : l.length = 1) (hk : 1 ≤ gK l ∧ gK l ≤ 6) (h3 : gK l ≠ 3) : getF l = waitF := by
  unfold getF; rw [if_neg (by omega), if_neg (by omega), if_neg h3, if_pos h]
theorem getF_5 {l : List UInt8} (h : 2 ≤ l.length) (hk : gK l = 5) : getF l = (if gL l ≤ 2 then (⟨5, ⟨#[]⟩, (gL l : Int)⟩, 2, 0) else badF) := by
  unfold getF; rw [if_neg (by omega), if_neg (by omega), if_neg (by omega), if_neg (by omega), if_pos hk]
theorem getF_t {l : List UInt8} (h : 2 ≤ l.length) (hk : 1 ≤ gK l ∧ gK l ≤ 6) (h3 : gK l ≠ 3) (h5 : gK l ≠ 5) : getF l = (if 100 < gL l then badF else if l.length < 2 + gL l then waitF else if frB (txF l) = true then (txF l, 2 + (gL l : Int), 0) else badF) := by
  unfold getF; rw [if_neg (by omega), if_neg (by omega), if_neg h3, if_neg (by omega), if_neg h5]

/-- The bytes that the readers look at. -/
theorem Reads.first {w : World} {B : Nat} {A : Option Addr} {l : List UInt8} (h : Reads w B 1 A l.length (bys l)) (hl : l.length ≠ 0) :
    ∃ b off, A = some ⟨b, off, none⟩ ∧ b < B ∧ w.cell? ⟨b, off, none⟩ = some (.int .u8 (gK l)) := by
  obtain ⟨b, off, u, hA, hb, hu, hc⟩ := h.byte (k := 0) (by omega)
  refine ⟨b, off, hA, hb, ?_⟩
  have : gK l = (u.toNat : Int) := by unfold gK; simp [List.getD, hu]
  rw [this]
  exact hc
theorem Reads.second {w : World} {B : Nat} {b off : Nat} {l : List UInt8} (h : Reads w B 1 (some ⟨b, off, none⟩) l.length (bys l)) (hl : 2 ≤ l.length) :
    w.cell? ⟨b, off + 1, none⟩ = some (.int .u8 (gL l : Int)) := by
  obtain ⟨b', off', u, hA, hb, hu, hc⟩ := h.byte (k := 1) (by omega)
  injection hA with hA
  injection hA with h1 h2
  subst h1 h2
  have : (gL l : Int) = (u.toNat : Int) := by unfold gL; simp [List.getD, hu]
  rw [this]
  exact hc
theorem gK_byte (l : List UInt8) : 0 ≤ gK l ∧ gK l ≤ 255 := by
  unfold gK
  have := byte_lt (l.getD 0 0)
  omega
theorem gL_byte (l : List UInt8) : gL l ≤ 255 := by
  unfold gL
  have := byte_lt (l.getD 1 0)
  omega
theorem tx_size (l : List UInt8) : (⟨((l.drop 2).take (gL l)).toArray⟩ : ByteArray).size ≤ 255 := by
  show (((l.drop 2).take (gL l)).toArray).size ≤ 255
  rw [List.size_toArray, List.length_take]
  have := gL_byte l
  omega

theorem put3_below {w W1 : World} (h : Below w.heap.size w W1) (a b c : Value) : Below w.heap.size w (((W1.setCell ⟨w.heap.size, 0, none⟩ a).setCell ⟨w.heap.size, 1, none⟩ b).setCell ⟨w.heap.size, 2, none⟩ c) :=
  ((h.setCell (Nat.le_refl _) _).setCell (Nat.le_refl _) _).setCell (Nat.le_refl _) _

/-- The result's box, still zero, and behind it the variable that holds a frame. -/
structure GF (w : World) (f : Fr) (w' : World) : Prop where
  below : Below w.heap.size w w'
  res : w'.heap[w.heap.size]? = some (.cells (frC ⟨0, ⟨#[]⟩, 0⟩).toArray 33 (0, 0))
  var : w'.heap[w.heap.size + 1]? = some (.cells (frC f).toArray 33 (0, 0))
instance GF.keeps (w : World) (f : Fr) : Keeps (GF w f) := ⟨fun h x => ⟨Later.trans x.below h, Keeps.keeps (F := fun w' => w'.heap[w.heap.size]? = some (.cells (frC ⟨0, ⟨#[]⟩, 0⟩).toArray 33 (0, 0))) h x.res, Keeps.keeps (F := fun w' => w'.heap[w.heap.size + 1]? = some (.cells (frC f).toArray 33 (0, 0))) h x.var⟩⟩
theorem GF.start (w : World) (f : Fr) : GF w f ((w.alloc (.cells #[.int .i64 0, .string ⟨#[]⟩, .int .i64 0] 33)).alloc (.cells (frC f).toArray 33)) :=
  ⟨Later.trans (Later.alloc w _) (Later.alloc _ _), Keeps.keeps (F := fun w' => w'.heap[w.heap.size]? = some (.cells #[.int .i64 0, .string ⟨#[]⟩, .int .i64 0] 33 (0, 0))) (Later.alloc _ _) (heap_alloc_new w _), heap_alloc_new' _ _ (by simp)⟩
theorem GF.set {w w1 : World} {f : Fr} (h : GF w f w1) (i : Nat) (u : Value) (f' : Fr) (hr : (frC f).toArray.setIfInBounds i u = (frC f').toArray) : GF w f' (w1.setCell ⟨w.heap.size + 1, i, none⟩ u) :=
  ⟨h.below.setCell (Nat.le_succ _) _, (heap_setCell_other _ _ _ _ (by simp)).trans h.res, hr ▸ var_set h.var i u⟩

set_option maxRecDepth 10000 in
set_option maxHeartbeats 8000000 in
theorem getFrameS_any (A : Option Addr) (c : Nat) (l : List UInt8) (w : World) (h : Reads w w.heap.size 1 A l.length (bys l)) (hn : l.length ≤ 100000000) (hcap : l.length ≤ c) :
    Calls Try.prog 70 #[.slice A l.length c] w (RetGetF w (getF l)) := by
  obtain ⟨i0, hi0, hz0, hz1, hz2⟩ := info_parts Try.info8
  unfold RetGetF
  by_cases h0 : l.length = 0
  · rw [getF_nil h0]
    have t0 : ((l.length : Int) == 0) = true := beq_iff_eq.2 (by omega)
    clear h0
    go_enter Try.func70, Try.ntmps70
    go_wp2_with fail
    go_returns
    exact ⟨rfl, Later.alloc w _⟩
  have t0 : ((l.length : Int) == 0) = false := beq_eq_false_iff_ne.2 (by omega)
  have i0' : (0 : Int) < (l.length : Int) := by omega
  obtain ⟨b, off, rfl, hbw, c0⟩ := h.first h0
  obtain ⟨g0, g1⟩ := gK_byte l
  have hl2 := gL_byte l
  by_cases hk : gK l < 1 ∨ 6 < gK l
  · rw [getF_out h0 hk]
    have HI := Lib.hid (show inI (gK l) 1 6 = false from decide_eq_false (by omega))
    generalize gK l = k at *
    clear hk h
    go_enter Try.func70, Try.ntmps70
    go_wp2_with fail
    refine (l1In_b HI.out _).mono ?_
    rintro e w' ⟨rfl, rfl⟩
    go_wp2_with fail
    go_returns
    exact ⟨rfl, by go_grown⟩
  have h1 : 1 ≤ gK l ∧ gK l ≤ 6 := by omega
  have HI := Lib.hid (show inI (gK l) 1 6 = true from decide_eq_true h1)
  by_cases hk3 : gK l = 3
  · rw [getF_3 h0 hk3]
    rw [hk3] at c0 HI
    have S : All (GF w ⟨3, ⟨#[]⟩, 0⟩) ((w.alloc (.cells #[.int .i64 0, .string ⟨#[]⟩, .int .i64 0] 33)).alloc (.cells #[.int .i64 3, .string ⟨#[]⟩, .int .i64 0] 33)) := ⟨GF.start w _⟩
    have HF := Lib.hid (show frB ⟨3, ⟨#[]⟩, 0⟩ = true from rfl)
    clear hk3 h hk h1
    go_enter Try.func70, Try.ntmps70
    go_wp2_with fail
    refine (l1In_b HI.out _).mono ?_
    rintro e w' ⟨rfl, rfl⟩
    go_wp2_with fail
    generalize ((w.alloc (.cells #[.int .i64 0, .string ⟨#[]⟩, .int .i64 0] 33)).alloc (.cells #[.int .i64 3, .string ⟨#[]⟩, .int .i64 0] 33)) = W at S ⊢
    refine (frameOkS_any ⟨3, ⟨#[]⟩, 0⟩ W (by show 0 ≤ 1048576; decide)).mono ?_
    rw [HF.out]
    rintro e W1 ⟨rfl, hb⟩
    replace S := S.later hb
    obtain ⟨z0, z1, z2⟩ := fr_box S.out.res
    obtain ⟨d0, d1, d2⟩ := fr_box S.out.var
    have q0 := var_frozen S.out.res 0
    have q1 := var_frozen S.out.res 1
    have q2 := var_frozen S.out.res 2
    have hfin := S.out.below
    clear hb S
    go_wp2_with fail
    exact bodyPost_ret (v := .tuple #[.agg #[.int .i64 3, .string ⟨#[]⟩, .int .i64 0], .int .i64 1, .int .i64 0]) (by simp [results, Try.results70, go_sem, z0, z1, z2]) rfl ⟨rfl, put3_below hfin _ _ _⟩
  by_cases hl1 : l.length = 1
  · rw [getF_1 hl1 h1 hk3]
    have t1 : ((l.length : Int) == 1) = true := beq_iff_eq.2 (by omega)
    have t3 : (gK l == 3) = false := beq_eq_false_iff_ne.2 hk3
    generalize gK l = k at *
    clear hk hk3 h h0
    go_enter Try.func70, Try.ntmps70
    go_wp2_with fail
    refine (l1In_b HI.out _).mono ?_
    rintro e w' ⟨rfl, rfl⟩
    go_wp2_with fail
    go_returns
    exact ⟨rfl, by go_grown⟩
  have hl : 2 ≤ l.length := by omega
  have t1 : ((l.length : Int) == 1) = false := beq_eq_false_iff_ne.2 (by omega)
  have t3 : (gK l == 3) = false := beq_eq_false_iff_ne.2 hk3
  have i1 : (1 : Int) < (l.length : Int) := by omega
  have c1 := h.second hl
  by_cases hk5 : gK l = 5
  · rw [getF_5 hl hk5]
    rw [hk5] at c0 HI
    obtain ⟨m, hm⟩ : ∃ m, gL l = m := ⟨_, rfl⟩
    rw [hm] at c1 hl2 ⊢
    have S : All (GF w ⟨5, ⟨#[]⟩, (m : Int)⟩) ((w.alloc (.cells #[.int .i64 0, .string ⟨#[]⟩, .int .i64 0] 33)).alloc (.cells #[.int .i64 5, .string ⟨#[]⟩, .int .i64 (m : Int)] 33)) := ⟨GF.start w _⟩
    clear hk3 t3 h hk h1 hk5 hm
    by_cases hm2 : m ≤ 2
    · rw [if_pos hm2]
      have HF := Lib.hid (show frB ⟨5, ⟨#[]⟩, (m : Int)⟩ = true by rw [frB_5]; simp [inI]; omega)
      clear hm2
      go_enter Try.func70, Try.ntmps70
      go_wp2_with fail
      refine (l1In_b HI.out _).mono ?_
      rintro e w' ⟨rfl, rfl⟩
      go_wp2_with fail
      generalize ((w.alloc (.cells #[.int .i64 0, .string ⟨#[]⟩, .int .i64 0] 33)).alloc (.cells #[.int .i64 5, .string ⟨#[]⟩, .int .i64 (m : Int)] 33)) = W at S ⊢
      refine (frameOkS_any ⟨5, ⟨#[]⟩, (m : Int)⟩ W (by show 0 ≤ 1048576; decide)).mono ?_
      rw [HF.out]
      rintro e W1 ⟨rfl, hb⟩
      replace S := S.later hb
      obtain ⟨z0, z1, z2⟩ := fr_box S.out.res
      obtain ⟨d0, d1, d2⟩ := fr_box S.out.var
      have q0 := var_frozen S.out.res 0
      have q1 := var_frozen S.out.res 1
      have q2 := var_frozen S.out.res 2
      have hfin := S.out.below
      clear hb S
      go_wp2_with fail
      exact bodyPost_ret (v := .tuple #[.agg #[.int .i64 5, .string ⟨#[]⟩, .int .i64 (m : Int)], .int .i64 2, .int .i64 0]) (by simp [results, Try.results70, go_sem, z0, z1, z2]) rfl ⟨rfl, put3_below hfin _ _ _⟩
    · rw [if_neg hm2]
      have HF := Lib.hid (show frB ⟨5, ⟨#[]⟩, (m : Int)⟩ = false by rw [frB_5]; simp [inI]; omega)
      clear hm2
      go_enter Try.func70, Try.ntmps70
      go_wp2_with fail
      refine (l1In_b HI.out _).mono ?_
      rintro e w' ⟨rfl, rfl⟩
      go_wp2_with fail
      generalize ((w.alloc (.cells #[.int .i64 0, .string ⟨#[]⟩, .int .i64 0] 33)).alloc (.cells #[.int .i64 5, .string ⟨#[]⟩, .int .i64 (m : Int)] 33)) = W at S ⊢
      refine (frameOkS_any ⟨5, ⟨#[]⟩, (m : Int)⟩ W (by show 0 ≤ 1048576; decide)).mono ?_
      rw [HF.out]
      rintro e W1 ⟨rfl, hb⟩
      replace S := S.later hb
      obtain ⟨z0, z1, z2⟩ := fr_box S.out.res
      obtain ⟨d0, d1, d2⟩ := fr_box S.out.var
      have q0 := var_frozen S.out.res 0
      have q1 := var_frozen S.out.res 1
      have q2 := var_frozen S.out.res 2
      have hfin := S.out.below
      clear hb S
      go_wp2_with fail
      exact bodyPost_ret (v := .tuple #[.agg #[.int .i64 0, .string ⟨#[]⟩, .int .i64 0], .int .i64 0, .int .i64 2]) (by simp [results, Try.results70, go_sem, z0, z1, z2]) rfl ⟨rfl, put3_below hfin _ _ _⟩
  have t5 : (gK l == 5) = false := beq_eq_false_iff_ne.2 hk5
  rw [getF_t hl h1 hk3 hk5]
  by_cases hb1 : 100 < gL l
  · rw [if_pos hb1]
    have i2 : (100 : Int) < (gL l : Int) := by omega
    generalize gK l = k at *
    generalize gL l = m at *
    clear hk hk3 hk5 h h0 hb1
    go_enter Try.func70, Try.ntmps70
    go_wp2_with fail
    refine (l1In_b HI.out _).mono ?_
    rintro e w' ⟨rfl, rfl⟩
    go_wp2_with fail
    go_returns
    exact ⟨rfl, by go_grown⟩
  rw [if_neg hb1]
  have i2 : ¬ (100 : Int) < (gL l : Int) := by omega
  by_cases hw2 : l.length < 2 + gL l
  · rw [if_pos hw2]
    have i3 : (l.length : Int) - 2 < (gL l : Int) := by omega
    generalize gK l = k at *
    generalize gL l = m at *
    clear hk hk3 hk5 h h0 hb1 hw2
    go_enter Try.func70, Try.ntmps70
    go_wp2_with fail
    refine (l1In_b HI.out _).mono ?_
    rintro e w' ⟨rfl, rfl⟩
    go_wp2_with fail
    go_returns
    exact ⟨rfl, by go_grown⟩
  rw [if_neg hw2]
  have i3 : ¬ (l.length : Int) - 2 < (gL l : Int) := by omega
  obtain ⟨A', hrun, hrd⟩ := slice_reads Try.underlying22 hi0 hz1 (A := some ⟨b, off, none⟩) (n := l.length) (c := c) (lo := 2) (hi' := 2 + gL l) .i64 .i64 (by omega) (by omega) hcap
  have hrd' := hrd h
  rw [show 2 + gL l - 2 = gL l by omega] at hrd' hrun
  have hsl : ∀ w, (Instr.slice 22 (.slice (some ⟨b, off, none⟩) l.length c) (some (.int .i64 2)) (some (.int .i64 (2 + (gL l : Int)))) none).run Try.prog w = .ok (.slice A' (gL l) (c - 2)) w := by
    intro w
    have := hrun w
    rwa [show (((2 : Nat) : Int)) = 2 by omega, show (((2 + gL l : Nat) : Int)) = 2 + (gL l : Int) by omega] at this
  have hsz := tx_size l
  have hFX : txF l = ⟨gK l, ⟨((l.drop 2).take (gL l)).toArray⟩, 0⟩ := rfl
  have HFX := Lib.hid hFX
  rw [hFX]
  clear hrun hrd hFX
  obtain ⟨x, hx⟩ : ∃ x : ByteArray, ⟨((l.drop 2).take (gL l)).toArray⟩ = x := ⟨_, rfl⟩
  have hcv0 := fun (w0 : World) (hr : Reads w0 w.heap.size 1 A' (gL l) (bys ((l.drop 2).take (gL l)))) => string_run (P := Try.prog) (src := 22) (dst := 9) Try.underlying22 Try.underlying5 Try.underlying9 (c := c - 2) hr
  have hcv := hcv0 _ ((hrd'.below (GF.start w ⟨gK l, ⟨#[]⟩, 0⟩).below))
  rw [hx] at hcv hsz ⊢
  have S : All (GF w ⟨gK l, x, 0⟩) ((w.alloc (.cells #[.int .i64 0, .string ⟨#[]⟩, .int .i64 0] 33)).alloc (.cells #[.int .i64 (gK l), .string x, .int .i64 0] 33)) := ⟨GF.start w _⟩
  replace hcv : (convert 22 9 (.slice A' (gL l) (c - 2))).run Try.prog ((w.alloc (.cells #[.int .i64 0, .string ⟨#[]⟩, .int .i64 0] 33)).alloc (.cells #[.int .i64 (gK l), .string ⟨#[]⟩, .int .i64 0] 33)) = .ok (.string x) ((w.alloc (.cells #[.int .i64 0, .string ⟨#[]⟩, .int .i64 0] 33)).alloc (.cells #[.int .i64 (gK l), .string ⟨#[]⟩, .int .i64 0] 33)) := hcv
  obtain ⟨r, hr⟩ : ∃ r, frB ⟨gK l, x, 0⟩ = r := ⟨_, rfl⟩
  rw [hr]
  have HF := Lib.hid hr
  generalize gK l = k at *
  generalize gL l = m at *
  clear hk hk3 hk5 h h0 hb1 hw2 hr hcv0 hrd' hx HFX
  cases r
  · rw [if_neg (by decide)]
    go_enter Try.func70, Try.ntmps70
    go_wp2_with fail
    refine (l1In_b HI.out _).mono ?_
    rintro e w' ⟨rfl, rfl⟩
    go_wp2_with fail
    generalize ((w.alloc (.cells #[.int .i64 0, .string ⟨#[]⟩, .int .i64 0] 33)).alloc (.cells #[.int .i64 k, .string x, .int .i64 0] 33)) = W at S ⊢
    refine (frameOkS_any ⟨k, x, 0⟩ W (by show x.size ≤ 1048576; omega)).mono ?_
    rw [HF.out]
    rintro e W1 ⟨rfl, hb⟩
    replace S := S.later hb
    obtain ⟨z0, z1, z2⟩ := fr_box S.out.res
    obtain ⟨d0, d1, d2⟩ := fr_box S.out.var
    have q0 := var_frozen S.out.res 0
    have q1 := var_frozen S.out.res 1
    have q2 := var_frozen S.out.res 2
    have hfin := S.out.below
    clear hb S
    go_wp2_with fail
    exact bodyPost_ret (v := .tuple #[.agg #[.int .i64 0, .string ⟨#[]⟩, .int .i64 0], .int .i64 0, .int .i64 2]) (by simp [results, Try.results70, go_sem, z0, z1, z2]) rfl ⟨rfl, put3_below hfin _ _ _⟩
  · rw [if_pos rfl]
    go_enter Try.func70, Try.ntmps70
    go_wp2_with fail
    refine (l1In_b HI.out _).mono ?_
    rintro e w' ⟨rfl, rfl⟩
    go_wp2_with fail
    generalize ((w.alloc (.cells #[.int .i64 0, .string ⟨#[]⟩, .int .i64 0] 33)).alloc (.cells #[.int .i64 k, .string x, .int .i64 0] 33)) = W at S ⊢
    refine (frameOkS_any ⟨k, x, 0⟩ W (by show x.size ≤ 1048576; omega)).mono ?_
    rw [HF.out]
    rintro e W1 ⟨rfl, hb⟩
    replace S := S.later hb
    obtain ⟨z0, z1, z2⟩ := fr_box S.out.res
    obtain ⟨d0, d1, d2⟩ := fr_box S.out.var
    have q0 := var_frozen S.out.res 0
    have q1 := var_frozen S.out.res 1
    have q2 := var_frozen S.out.res 2
    have hfin := S.out.below
    clear hb S
    go_wp2_with fail
    exact bodyPost_ret (v := .tuple #[.agg #[.int .i64 k, .string x, .int .i64 0], .int .i64 (2 + (m : Int)), .int .i64 0]) (by simp [results, Try.results70, go_sem, z0, z1, z2]) rfl ⟨rfl, put3_below hfin _ _ _⟩

end Go.Proofs.Ytcelkmphdeaaeaa
