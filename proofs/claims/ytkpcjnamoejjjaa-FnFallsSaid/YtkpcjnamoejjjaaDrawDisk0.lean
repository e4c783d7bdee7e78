/- What the draws of disks keep. -/
import Derived.Test.YtkpcjnamoejjjaaDiskFacts
import Derived.Test.YtkpcjnamoejjjaaDrawMore
import Derived.Test.YtkpcjnamoejjjaaFallRep
namespace Go.Proofs.Ytkpcjnamoejjjaa
open Go.RowKit Go.Maps
set_option linter.unusedVariables false

theorem wf_i64 {n : Int} (h1 : -9223372036854775808 ≤ n) (h2 : n ≤ 9223372036854775807) : (Lit.int .i64 n).wf = true := by
  have e1 : IntKind.i64.min = -9223372036854775808 := by decide
  have e2 : IntKind.i64.max = 9223372036854775807 := by decide
  simp [Lit.wf, e1, e2]
  omega
theorem good_fits {d : Disk} (h : DiskGood d) : Fits d := by
  obtain ⟨⟨h1, h2, h3⟩, h4, h5, _⟩ := h
  exact ⟨by omega, fun l hl => by have := h4 l hl; omega, by omega, fun x hx => by have := (h5 x hx).2.2; omega⟩
theorem good_ok {d : Disk} (h : DiskGood d) : OkDisk d := by
  obtain ⟨⟨h1, h2, h3⟩, h4, h5, h6, h7⟩ := h
  refine ⟨fun x hx => ?_, ?_⟩
  · have a := (h5 x hx).1
    have b := (h5 x hx).2.1
    exact wf_i64 (by omega) (by omega)
  · exact wf_i64 (by omega) (by omega)
theorem good_writeSec {d : Disk} (h : DiskGood d) (n : Int) (b : List UInt8) : DiskGood (writeSec d n b) := by
  by_cases hg : WriteGood d n b
  · exact good_write hg
  · rw [writeSec_no hg]; exact h
theorem good_syncDisk {d : Disk} (h : DiskGood d) : DiskGood (syncDisk d) := by
  by_cases hg : SyncGood d
  · by_cases h0 : d.fuse = 0
    · rw [syncDisk_zero hg h0]
      exact ⟨h.1, h.2.1, h.2.2.1, by show (-1 : Int) ≤ -1; omega, by show (-1 : Int) ≤ 1000; omega⟩
    · rw [syncDisk_go hg h0]
      refine good_flush h (idx_ok d _ (Nat.le_refl _)) d.down ?_ ?_
      · have := h.2.2.2.1
        unfold fuseAfter
        split <;> omega
      · have := h.2.2.2.2
        unfold fuseAfter
        split <;> omega
  · rw [syncDisk_no hg]; exact h
theorem good_fallDisk {d : Disk} (h : DiskGood d) (k : Int) : DiskGood (fallDisk d k) := by
  rw [fallDisk_go k h]
  exact good_flush h (idx_okB d _ _ (Nat.le_refl _)) false (by omega) (by omega)
theorem good_fuse {d : Disk} (h : DiskGood d) {z : Int} (h1 : -1 ≤ z) (h2 : z ≤ 1000) : DiskGood ⟨d.secs, d.cache, z, d.down⟩ := ⟨h.1, h.2.1, h.2.2.1, h1, h2⟩
theorem good_diskNew {n : Int} (h1 : 1 ≤ n) (h2 : n ≤ 40) : DiskGood (diskNew n) := by
  unfold diskNew
  rw [if_pos ⟨h1, h2⟩]
  refine ⟨⟨?_, ?_, ?_⟩, ?_, ?_, ?_, ?_⟩
  · simp; omega
  · simp; omega
  · simp
  · intro b hb; simp at hb; simp [hb.2]
  · intro x hx; cases hx
  · show (-1 : Int) ≤ -1; omega
  · show (-1 : Int) ≤ 1000; omega

theorem Cur.only {w w' : World} {lo g : Nat} {A : Option Addr} {n c : Nat} {code : List UInt8} (h : Cur w lo g A n c code) {fp : List Nat} (ho : Rep.Only w w' fp) (hg : g ∉ fp) (hf : ∀ a, a ∈ fp → lo ≤ a) : Cur w' lo g A n c code := by
  have hlt := h.lt
  obtain ⟨hlo, hrd, i, hh, hi, h1, h2, hb⟩ := h
  refine ⟨hlo, hrd.keep fun p hp => World.cell?_of_block (ho.block p.block (by omega) (fun e => by have := hf _ e; omega)), i, hh, hi, h1, h2, ?_⟩
  rw [ho.block g hlt hg]
  exact hb
theorem Cur.drew {w : World} {lo g : Nat} {A : Option Addr} {n c : Nat} {code : List UInt8} (h : Cur w lo g A n c code) : Cur w.drew lo g A n c code := h.only (Rep.only_drew w) (by simp) (fun a ha => by cases ha)
theorem Rep.Only.then {w w1 w2 : World} {fp fp2 : List Nat} (h : Rep.Only w w1 fp) (h2 : Rep.Only w1 w2 fp2) (hf : ∀ a, a ∈ fp2 → a ∈ fp ∨ w.heap.size ≤ a) : Rep.Only w w2 fp :=
  ⟨h2.os.trans h.os, h2.tape.trans h.tape, h2.output.trans h.output, Nat.le_trans h.size h2.size, fun k hk hn => (h2.block k (Nat.lt_of_lt_of_le hk h.size) (fun e => by rcases hf k e with h3 | h3; (exact hn h3); omega)).trans (h.block k hk hn)⟩
theorem Rep.Only.cell {w w' : World} {fp : List Nat} (h : Rep.Only w w' fp) {b o : Nat} (hb : b < w.heap.size) (hn : b ∉ fp) : w'.cell? ⟨b, o, none⟩ = w.cell? ⟨b, o, none⟩ := World.cell?_of_block (h.block b hb hn)
theorem only_g {w w' : World} {g : Nat} (h : w.grownBy w' (some g)) : Rep.Only w w' [g] := Rep.Only.of_grown h (fun a ha => by injection ha with ha; simp [ha])

/-- A disk that was drawn. -/
def RetDraw (w : World) (lo g : Nat) (A : Option Addr) (n c : Nat) (code : List UInt8) (P : Disk → Prop) (e : Ending) (w' : World) : Prop :=
  ∃ d cs fp, e = .returned (.agg cs.toArray) ∧ P d ∧ diskR.own w' w.heap.size cs d fp ∧ Cur w' lo g A n c code ∧ Rep.Only w w' [g]

/-- The block D is the variable of a disk; what it leads to are blocks of the call's own, from base on, D itself not among them. -/
def VarDisk (w : World) (base D : Nat) (d : Disk) (fp : List Nat) : Prop :=
  ∃ A c B e, w.heap[D]? = some (.cells #[.slice A d.secs.length c, .slice B d.cache.length e, .int .i64 d.fuse, .bool d.down] 27 (0, 0)) ∧
    diskR.own w base [.slice A d.secs.length c, .slice B d.cache.length e, .int .i64 d.fuse, .bool d.down] d fp ∧ D ∉ fp

theorem VarDisk.only {w w' : World} {base D : Nat} {d : Disk} {fp f : List Nat} (h : VarDisk w base D d fp) (ho : Rep.Only w w' f) (hD : D ∉ f) (hd : ∀ a, a ∈ fp → a ∉ f) : VarDisk w' base D d fp := by
  obtain ⟨A, c, B, e, hv, hx, hn⟩ := h
  have hlt : D < w.heap.size := (Array.getElem?_eq_some_iff.1 hv).1
  exact ⟨A, c, B, e, (ho.block D hlt hD).trans hv, Rep.own_only hx ho hd, hn⟩
theorem VarDisk.lt {w : World} {base D : Nat} {d : Disk} {fp : List Nat} (h : VarDisk w base D d fp) : D < w.heap.size := by
  obtain ⟨A, c, B, e, hv, _⟩ := h
  exact (Array.getElem?_eq_some_iff.1 hv).1
theorem VarDisk.fp {w : World} {base D : Nat} {d : Disk} {fp : List Nat} (h : VarDisk w base D d fp) : ∀ a, a ∈ fp → base ≤ a ∧ a < w.heap.size ∧ a ≠ D := by
  obtain ⟨A, c, B, e, hv, hx, hn⟩ := h
  intro a ha
  exact ⟨(Rep.lt diskR hx a ha).1, (Rep.lt diskR hx a ha).2, fun e => hn (e ▸ ha)⟩

theorem put4_only (w : World) (D : Nat) (a b c d : Value) : Rep.Only w ((((w.setCell ⟨D, 0, none⟩ a).setCell ⟨D, 1, none⟩ b).setCell ⟨D, 2, none⟩ c).setCell ⟨D, 3, none⟩ d) [D] :=
  (((Rep.Only.setCell w (by simp) _).trans (Rep.Only.setCell _ (by simp) _)).trans (Rep.Only.setCell _ (by simp) _)).trans (Rep.Only.setCell _ (by simp) _)
theorem put4_var {w : World} {D t : Nat} {a b c d a' b' c' d' : Value} (h : w.heap[D]? = some (.cells #[a', b', c', d'] t (0, 0))) :
    ((((w.setCell ⟨D, 0, none⟩ a).setCell ⟨D, 1, none⟩ b).setCell ⟨D, 2, none⟩ c).setCell ⟨D, 3, none⟩ d).heap[D]? = some (.cells #[a, b, c, d] t (0, 0)) :=
  var_set (var_set (var_set (var_set h 0 a) 1 b) 2 c) 3 d
/-- A disk whose memory is the call's own is stored into the variable. -/
theorem VarDisk.put {w : World} {base base' D : Nat} {d : Disk} {fp : List Nat} {A B : Option Addr} {c e : Nat} {a' b' c' d' : Value} (hv : w.heap[D]? = some (.cells #[a', b', c', d'] 27 (0, 0)))
    (ho : diskR.own w base' [.slice A d.secs.length c, .slice B d.cache.length e, .int .i64 d.fuse, .bool d.down] d fp) (hb : base ≤ base') (hD : D < base') :
    VarDisk ((((w.setCell ⟨D, 0, none⟩ (.slice A d.secs.length c)).setCell ⟨D, 1, none⟩ (.slice B d.cache.length e)).setCell ⟨D, 2, none⟩ (.int .i64 d.fuse)).setCell ⟨D, 3, none⟩ (.bool d.down)) base D d fp :=
  ⟨A, c, B, e, put4_var hv, diskR.low (Rep.own_only ho (put4_only _ _ _ _ _ _) (fun a ha hm => by have := (Rep.lt diskR ho a ha).1; simp at hm; omega)) hb, fun hm => by have := (Rep.lt diskR ho D hm).1; omega⟩
theorem VarDisk.cells {w : World} {base D : Nat} {d : Disk} {fp : List Nat} (h : VarDisk w base D d fp) :
    ∃ A c B e, Hid (w.heap[D]? = some (.cells #[.slice A d.secs.length c, .slice B d.cache.length e, .int .i64 d.fuse, .bool d.down] 27 (0, 0))) ∧
      diskR.own w base [.slice A d.secs.length c, .slice B d.cache.length e, .int .i64 d.fuse, .bool d.down] d fp ∧ Hid (D ∉ fp) ∧
      w.cell? ⟨D, 0, none⟩ = some (.slice A d.secs.length c) ∧ w.cell? ⟨D, 1, none⟩ = some (.slice B d.cache.length e) ∧ w.cell? ⟨D, 2, none⟩ = some (.int .i64 d.fuse) ∧ w.cell? ⟨D, 3, none⟩ = some (.bool d.down) ∧ (∀ i, w.frozen? ⟨D, i, none⟩ = false) := by
  obtain ⟨A, c, B, e, hv, hx, hn⟩ := h
  exact ⟨A, c, B, e, Lib.hid hv, hx, Lib.hid hn, var_cell hv 0, var_cell hv 1, var_cell hv 2, var_cell hv 3, var_frozen hv⟩

theorem VarDisk.open_ {w : World} {base D : Nat} {d : Disk} {fp : List Nat} (h : VarDisk w base D d fp) :
    ∃ A c B e f f', Hid (w.heap[D]? = some (.cells #[.slice A d.secs.length c, .slice B d.cache.length e, .int .i64 d.fuse, .bool d.down] 27 (0, 0))) ∧
      Rep.OwnRows byR 22 w base (.slice A d.secs.length c) d.secs f ∧ Rep.OwnRows wrR 42 w base (.slice B d.cache.length e) d.cache f' ∧ Hid ((∀ a, a ∈ f → a ∉ f') ∧ D ∉ f ∧ D ∉ f') ∧ Hid (∀ a, a ∈ f ∨ a ∈ f' → base ≤ a ∧ a < w.heap.size) := by
  obtain ⟨A, c, B, e, hv, hx, hn⟩ := h
  have hlt := Rep.lt diskR hx
  obtain ⟨u1, u2, ff, fc, hcs, ho1, ho2, hfp, hnd⟩ := disk_inv hx
  have e1 : u1 = .slice A d.secs.length c := by injection hcs with h1 _; exact h1.symm
  have e2 : u2 = .slice B d.cache.length e := by injection hcs with _ h2; injection h2 with h2 _; exact h2.symm
  subst e1 e2 hfp
  refine ⟨A, c, B, e, ff, fc, Lib.hid hv, ho1, ho2, Lib.hid ⟨fun a ha hb => (List.nodup_append.1 hnd).2.2 a ha a hb rfl, fun hm => hn (List.mem_append_left _ hm), fun hm => hn (List.mem_append_right _ hm)⟩, Lib.hid fun a ha => hlt a (List.mem_append.2 ha)⟩
theorem VarDisk.close {w : World} {base D : Nat} {d : Disk} {A B : Option Addr} {c e : Nat} {f f' : List Nat} (hv : w.heap[D]? = some (.cells #[.slice A d.secs.length c, .slice B d.cache.length e, .int .i64 d.fuse, .bool d.down] 27 (0, 0)))
    (ho1 : Rep.OwnRows byR 22 w base (.slice A d.secs.length c) d.secs f) (ho2 : Rep.OwnRows wrR 42 w base (.slice B d.cache.length e) d.cache f') (hd : (∀ a, a ∈ f → a ∉ f') ∧ D ∉ f ∧ D ∉ f') : VarDisk w base D d (f ++ f') :=
  ⟨A, c, B, e, hv, disk_own2 ho1 ho2 (Rep.nodup_append_of (Rep.nodup secsR (w := w) (base := base) (cs := [.slice A d.secs.length c]) ⟨_, rfl, ho1⟩) (Rep.nodup cacheR (w := w) (base := base) (cs := [.slice B d.cache.length e]) ⟨_, rfl, ho2⟩) hd.1), fun hm => by
    rw [List.mem_append] at hm
    rcases hm with hm | hm
    · exact hd.2.1 hm
    · exact hd.2.2 hm⟩
/-- Its last two fields are set. -/
theorem VarDisk.fuse {w : World} {base D : Nat} {d : Disk} {fp : List Nat} (h : VarDisk w base D d fp) (z : Int) : ∃ fp', VarDisk (w.setCell ⟨D, 2, none⟩ (.int .i64 z)) base D ⟨d.secs, d.cache, z, d.down⟩ fp' := by
  obtain ⟨A, c, B, e, f, f', hv, h1, h2, hd, _⟩ := h.open_
  exact ⟨_, VarDisk.close (d := ⟨d.secs, d.cache, z, d.down⟩) (var_set hv.out 2 _) (h1.kept fun a ha => heap_setCell_other _ _ _ _ (fun e => hd.out.2.1 ((show a = D from e) ▸ ha))) (h2.kept fun a ha => heap_setCell_other _ _ _ _ (fun e => hd.out.2.2 ((show a = D from e) ▸ ha))) hd.out⟩
theorem VarDisk.down {w : World} {base D : Nat} {d : Disk} {fp : List Nat} (h : VarDisk w base D d fp) (z : Bool) : ∃ fp', VarDisk (w.setCell ⟨D, 3, none⟩ (.bool z)) base D ⟨d.secs, d.cache, d.fuse, z⟩ fp' := by
  obtain ⟨A, c, B, e, f, f', hv, h1, h2, hd, _⟩ := h.open_
  exact ⟨_, VarDisk.close (d := ⟨d.secs, d.cache, d.fuse, z⟩) (var_set hv.out 3 _) (h1.kept fun a ha => heap_setCell_other _ _ _ _ (fun e => hd.out.2.1 ((show a = D from e) ▸ ha))) (h2.kept fun a ha => heap_setCell_other _ _ _ _ (fun e => hd.out.2.2 ((show a = D from e) ▸ ha))) hd.out⟩
/-- A disk as it may be drawn where anything goes. -/
def AnyDisk (d : Disk) : Prop := Fits d ∧ OkDisk d ∧ d.cache.length ≤ 40
theorem good_any {d : Disk} (h : DiskGood d) : AnyDisk d := ⟨good_fits h, good_ok h, by have := h.1.2.2; omega⟩
theorem any_fuse {d : Disk} (h : AnyDisk d) {z : Int} (h1 : -9223372036854775808 ≤ z) (h2 : z ≤ 9223372036854775807) : AnyDisk ⟨d.secs, d.cache, z, d.down⟩ := ⟨h.1, ⟨h.2.1.1, wf_i64 h1 h2⟩, h.2.2⟩
theorem any_down {d : Disk} (h : AnyDisk d) (z : Bool) : AnyDisk ⟨d.secs, d.cache, d.fuse, z⟩ := ⟨h.1, ⟨h.2.1.1, h.2.1.2⟩, h.2.2⟩
theorem any_secs {d : Disk} (h : AnyDisk d) {xs : List (List UInt8)} (h1 : xs.length ≤ 1048576) (h2 : ∀ l, l ∈ xs → l.length ≤ 1048576) : AnyDisk ⟨xs, d.cache, d.fuse, d.down⟩ := ⟨⟨h1, h2, h.1.2.2⟩, h.2⟩
theorem any_push {d : Disk} (h : AnyDisk d) (hc : d.cache.length < 40) {x : Wr} (h1 : (Lit.int .i64 x.n).wf = true) (h2 : x.b.length ≤ 1048576) : AnyDisk ⟨d.secs, d.cache ++ [x], d.fuse, d.down⟩ := by
  have hl : (d.cache ++ [x]).length = d.cache.length + 1 := by simp
  refine ⟨⟨h.1.1, h.1.2.1, by show (d.cache ++ [x]).length ≤ _; omega, fun y hy => ?_⟩, ⟨fun y hy => ?_, h.2.1.2⟩, by show (d.cache ++ [x]).length ≤ _; omega⟩
  · replace hy : y ∈ d.cache ++ [x] := hy
    rw [List.mem_append] at hy
    rcases hy with hy | hy
    · exact h.1.2.2.2 y hy
    · simp at hy; subst hy; exact h2
  · replace hy : y ∈ d.cache ++ [x] := hy
    rw [List.mem_append] at hy
    rcases hy with hy | hy
    · exact h.2.1.1 y hy
    · simp at hy; subst hy; exact h1

theorem Rep.OwnRows.some_ {α : Type} {R : Rep α} {e : TypeId} {w : World} {base n c : Nat} {A : Option Addr} {xs : List α} {fp : List Nat} (h : Rep.OwnRows R e w base (.slice A n c) xs fp) (h0 : 0 < xs.length) : ∃ g, A = some ⟨g, 0, none⟩ ∧ g ∈ fp := by
  obtain ⟨cells, fps, ho, hl, he, hfp, hn⟩ := h
  obtain ⟨g, cap, hv, _, _⟩ := ho.form h0
  injection hv with hv _ _
  subst hv
  exact ⟨g, rfl, by rw [hfp]; simp [Value.ownBlock]⟩
theorem Rep.OwnRows.store' {α : Type} {R : Rep α} {e : TypeId} {w : World} {base g k n c B : Nat} {xs : List α} {fp : List Nat} (h : Rep.OwnRows R e w base (.slice (some ⟨g, 0, none⟩) n c) xs fp) {x : α} (cs : List Value) {f : List Nat} (hn : xs.length = n) (hk : k < n)
    (hc : cs.length = R.size) (hx : R.own w B cs x f) (hB : base ≤ B) (hf : ∀ g', g' ∈ fp → g' < B) :
    ∃ fp', Rep.OwnRows R e (Rep.setRow w g (k * R.size) cs) base (.slice (some ⟨g, 0, none⟩) n c) (xs.set k x) fp' ∧ ∀ a, a ∈ fp' → a ∈ fp ∨ a ∈ f := by
  subst hn
  have hg : g ∈ fp := by
    obtain ⟨_, _, _, _, _, hfp, _⟩ := h
    rw [hfp]
    simp [Value.ownBlock]
  exact h.put (k := k) (x := x) (c := cs) (f := f) (w' := Rep.setRow w g (k * R.size) cs) hk (fun cells ho => Rep.setRow_put cs ho hk hc)
    (R.low (R.kept hx fun a ha => Rep.setRow_heap _ _ _ _ _ (fun e => by have := (R.lt hx a ha).1; have := hf g hg; omega)) hB)
    (fun a ha ha' => by have := (R.lt hx a ha).1; have := hf a ha'; omega)
    (fun a ha hne => Rep.setRow_heap _ _ _ _ _ (fun e => hne (by rw [e]; rfl)))

/-- An int of a list that has just been made. -/
def RetInt (w : World) (lo g : Nat) (A : Option Addr) (n c : Nat) (code : List UInt8) (zs : List Int) (e : Ending) (w' : World) : Prop :=
  ∃ z, z ∈ zs ∧ e = .returned (.int .i64 z) ∧ Cur w' lo g A n c code ∧ Rep.Only w w' [g]

theorem draw_int (lo g : Nat) (A : Option Addr) (n c : Nat) (code : List UInt8) (zs : List Int) (w : World) (h : Cur w lo g A n c code) (hn : n ≤ 140737488351232) (hz0 : 0 < zs.length) (hz : zs.length ≤ 1000) :
    Calls Try.prog 37 #[.pointer (some ⟨g, 0, none⟩), .slice (some ⟨w.heap.size, 0, none⟩) zs.length zs.length] (w.alloc (.cells (zs.map (Value.int .i64)).toArray 3)) (RetInt w lo g A n c code zs) := by
  refine (l1Int_any lo g w.heap.size A n c code zs _ (h.only (Rep.only_alloc w _) (by simp) (fun a ha => by cases ha)) hn hz0 hz (heap_alloc_new w _) (by have := h.lt; omega)).mono ?_
  rintro e w' ⟨z, hm, rfl, hc, hg⟩
  exact ⟨z, hm, rfl, hc, ((Rep.only_alloc w _).mono (by simp) : Rep.Only w _ [g]).trans (only_g hg)⟩

/-- A write was appended to the cache, and the variable holds the new cache. -/
theorem VarDisk.pushed {W w4 : World} {base D g : Nat} {d : Disk} {A7 B9 A4 : Option Addr} {c8 d10 c4 : Nat} {f f' fp4 : List Nat} {y : Wr}
    (VG : Hid (W.heap[D]? = some (.cells #[.slice A7 d.secs.length c8, .slice B9 d.cache.length d10, .int .i64 d.fuse, .bool d.down] 27 (0, 0))))
    (ho1 : Rep.OwnRows byR 22 W base (.slice A7 d.secs.length c8) d.secs f) (HN : Hid ((∀ a, a ∈ f → a ∉ f') ∧ D ∉ f ∧ D ∉ f')) (HL : Hid (∀ a, a ∈ f ∨ a ∈ f' → base ≤ a ∧ a < W.heap.size))
    (o4 : Rep.Only W w4 (g :: f')) (hg : g < base) (hgD : g ≠ D) (h4 : Rep.OwnRows wrR 42 w4 base (.slice A4 (d.cache.length + 1) c4) (d.cache ++ [y]) fp4) (hf4 : ∀ a, a ∈ fp4 → a ∈ f' ∨ W.heap.size ≤ a) :
    VarDisk (w4.setCell ⟨D, 1, none⟩ (.slice A4 (d.cache.length + 1) c4)) base D ⟨d.secs, d.cache ++ [y], d.fuse, d.down⟩ (f ++ fp4) := by
  have hlt : D < W.heap.size := (Array.getElem?_eq_some_iff.1 VG.out).1
  have hl : (d.cache ++ [y]).length = d.cache.length + 1 := by simp
  have hDn : D ∉ g :: f' := by
    intro hm
    rw [List.mem_cons] at hm
    rcases hm with hm | hm
    · exact hgD hm.symm
    · exact HN.out.2.2 hm
  have hD4 : D ∉ fp4 := fun hm => by
    rcases hf4 D hm with h | h
    · exact HN.out.2.2 h
    · omega
  have v4 := var_set ((o4.block D hlt hDn).trans VG.out) 1 (.slice A4 (d.cache.length + 1) c4)
  have h1 := ho1.kept (w' := w4) (fun a ha => o4.block a (HL.out a (.inl ha)).2 (fun hm => by
    rw [List.mem_cons] at hm
    rcases hm with hm | hm
    · have := (HL.out a (.inl ha)).1; omega
    · exact HN.out.1 a ha hm))
  refine VarDisk.close (d := ⟨d.secs, d.cache ++ [y], d.fuse, d.down⟩) (A := A7) (c := c8) (B := A4) (e := c4) (by simp only [hl]; exact v4) (h1.kept fun a ha => heap_setCell_other _ _ _ _ (fun e => HN.out.2.1 ((show a = D from e) ▸ ha))) (by simp only [hl]; exact h4.kept fun a ha => heap_setCell_other _ _ _ _ (fun e => hD4 ((show a = D from e) ▸ ha))) ⟨fun a ha hb => ?_, HN.out.2.1, hD4⟩
  rcases hf4 a hb with h | h
  · exact HN.out.1 a ha h
  · have := (HL.out a (.inl ha)).2
    omega

end Go.Proofs.Ytkpcjnamoejjjaa
