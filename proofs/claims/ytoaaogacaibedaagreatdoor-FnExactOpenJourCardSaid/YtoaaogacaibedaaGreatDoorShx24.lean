/- What the theorem needs, out of many texts. -/
import Derived.Test.YtoaaogacaibedaaGreatDoorShx21
namespace Go.Proofs.YtoaaogacaibedaaGreatDoor
open Go.RowKit Go.Maps
set_option maxRecDepth 2000000
set_option linter.unusedVariables false
def secCell (sc cc : List Value) (idx : Int → Option Nat) (i : Nat) : Value := match idx (i : Int) with | some j => cc.getD (2 * j + 1) undef | none => sc.getD i undef
def mixC (n : Nat) (sc cc : List Value) (idx : Int → Option Nat) : List Value := (List.range n).map (secCell sc cc idx)
theorem mixC_length (n : Nat) (sc cc : List Value) (idx : Int → Option Nat) : (mixC n sc cc idx).length = n := by simp [mixC]
theorem mixC_get {n i : Nat} (sc cc : List Value) (idx : Int → Option Nat) (h : i < n) : (mixC n sc cc idx)[i]? = some (secCell sc cc idx i) := by
 unfold mixC
 rw [List.getElem?_map, List.getElem?_range h]
 rfl
theorem mixC_none (sc cc : List Value) : mixC sc.length sc cc (fun _ => none) = sc := by
 refine List.ext_getElem? fun i => ?_
 by_cases h : i < sc.length
 ·rw [mixC_get _ _ _ h, List.getElem?_eq_getElem h]
  show some (sc.getD i undef) = _
  rw [List.getD_eq_getElem?_getD, List.getElem?_eq_getElem h]
  rfl
 ·rw [List.getElem?_eq_none (by rw [mixC_length]; omega), List.getElem?_eq_none (by omega)]
theorem mixC_step {n n0 k : Nat} {sc cc : List Value} {idx idx' : Int → Option Nat} (h : n0 < n) (hi : ∀ i, idx' i = if (n0 : Int) = i then some k else idx i) : mixC n sc cc idx' = (mixC n sc cc idx).set n0 (cc.getD (2 * k + 1) undef) := by
 refine List.ext_getElem? fun i => ?_
 rw [List.getElem?_set]
 by_cases hin : i < n
 ·rw [mixC_get _ _ _ hin, mixC_get _ _ _ hin, mixC_length]
  have e : secCell sc cc idx' i = if n0 = i then cc.getD (2 * k + 1) undef else secCell sc cc idx i := by
   unfold secCell
   rw [hi i]
   by_cases he : n0 = i
   ·rw [if_pos he, if_pos (by omega)]
   ·rw [if_neg he, if_neg (by omega)]
  rw [e]
  by_cases he : n0 = i
  ·rw [if_pos he, if_pos he, if_pos (by omega)]
  ·rw [if_neg he, if_neg he]
 ·rw [List.getElem?_eq_none (by rw [mixC_length]; omega), List.getElem?_eq_none (by rw [mixC_length]; omega)]
  rw [if_neg (by omega)]
def secAt (d : Disk) (idx : Int → Option Nat) (i : Nat) : List UInt8 := match idx (i : Int) with | some j => (d.cache.getD j ⟨0, []⟩).b | none => d.secs.getD i []
def flushSecs (d : Disk) (idx : Int → Option Nat) : List (List UInt8) := (List.range d.secs.length).map (secAt d idx)
theorem flushSecs_length (d : Disk) (idx : Int → Option Nat) : (flushSecs d idx).length = d.secs.length := by simp [flushSecs]
def IdxOk (d : Disk) (idx : Int → Option Nat) : Prop := ∀ i j, idx i = some j → ∃ x, d.cache[j]? = some x ∧ x.n = i
theorem idx_ok (d : Disk) (k : Nat) (hk : k ≤ d.cache.length) : IdxOk d (idxC (key d.cache) k) := by
 intro i j h
 obtain ⟨h1, h2⟩ := idxC_lt h
 obtain ⟨x, hx⟩ := Rep.getElem?_of_lt (xs := d.cache) rfl (show j < d.cache.length by omega)
 rw [key_eq hx] at h2
 exact ⟨x, hx, by simpa using h2⟩
structure Mid (w : World) (base : Nat) (v v' : Value) (d : Disk) (sc cc : List Value) (fps fcs : List (List Nat)) (idx : Int → Option Nat) : Prop where
 row : w.ownsRow base 22 1 v d.secs.length (mixC d.secs.length sc cc idx)
 crow : w.ownsRow base 100 2 v' d.cache.length cc
 secs : ∀ i x f, d.secs[i]? = some x → fps[i]? = some f → byR.own w base (Rep.seg 1 i sc) x f
 cache : ∀ i x f, d.cache[i]? = some x → fcs[i]? = some f → wrR.own w base (Rep.seg 2 i cc) x f
 slen : fps.length = d.secs.length
 clen : fcs.length = d.cache.length
 sclen : sc.length = d.secs.length
 nodup : ((v.ownBlock.toList ++ fps.flatten) ++ (v'.ownBlock.toList ++ fcs.flatten)).Nodup
theorem Mid.start {w : World} {base : Nat} {v v' : Value} {d : Disk} {f f' : List Nat} (h : Rep.OwnRows byR 22 w base v d.secs f) (h' : Rep.OwnRows wrR 100 w base v' d.cache f') (hn : (f ++ f').Nodup) :
  ∃ sc cc fps fcs, f = v.ownBlock.toList ++ fps.flatten ∧ f' = v'.ownBlock.toList ++ fcs.flatten ∧ Mid w base v v' d sc cc fps fcs (fun _ => none) := by
 obtain ⟨sc, fps, ho, hl, he, hf, hn1⟩ := h
 obtain ⟨cc, fcs, ho', hl', he', hf', hn1'⟩ := h'
 have hsl : sc.length = d.secs.length := by have := ho.1; replace this : sc.length = d.secs.length * 1 := this; omega
 refine ⟨sc, cc, fps, fcs, hf, hf', ?_, ho', he, he', hl, hl', hsl, by rw [← hf, ← hf']; exact hn⟩
 have := mixC_none sc cc
 rw [hsl] at this
 rw [this]
 exact ho
theorem Mid.kept {w w' : World} {base : Nat} {v v' : Value} {d : Disk} {sc cc : List Value} {fps fcs : List (List Nat)} {idx : Int → Option Nat} (h : Mid w base v v' d sc cc fps fcs idx) (hb : ∀ a, a ∈ (v.ownBlock.toList ++ fps.flatten) ++ (v'.ownBlock.toList ++ fcs.flatten) → w'.heap[a]? = w.heap[a]?) : Mid w' base v v' d sc cc fps fcs idx :=
  ⟨Rep.ownsRow_block h.row fun a ha => hb a (by simp [List.mem_append] at ha ⊢; simp [ha]), Rep.ownsRow_block h.crow fun a ha => hb a (by simp [List.mem_append] at ha ⊢; simp [ha]),
   fun i x f hx hf => byR.kept (h.secs i x f hx hf) fun a ha => hb a (by rw [List.mem_append]; exact .inl (List.mem_append_right _ (Rep.mem_flatten_of hf ha))),
   fun i x f hx hf => wrR.kept (h.cache i x f hx hf) fun a ha => hb a (by rw [List.mem_append]; exact .inr (List.mem_append_right _ (Rep.mem_flatten_of hf ha))), h.slen, h.clen, h.sclen, h.nodup⟩
theorem Mid.weak {w : World} {base : Nat} {v v' : Value} {d : Disk} {sc cc : List Value} {fps fcs : List (List Nat)} {idx idx' : Int → Option Nat} (h : Mid w base v v' d sc cc fps fcs idx) (he : ∀ i, idx i = idx' i) : Mid w base v v' d sc cc fps fcs idx' := by
 have : idx = idx' := funext he
 subst this
 exact h
theorem Mid.store {w : World} {base g c n0 k : Nat} {v' : Value} {d : Disk} {sc cc : List Value} {fps fcs : List (List Nat)} {idx idx' : Int → Option Nat} (h : Mid w base (.slice (some ⟨g, 0, none⟩) d.secs.length c) v' d sc cc fps fcs idx) (h0 : n0 < d.secs.length)
    (hi : ∀ i, idx' i = if (n0 : Int) = i then some k else idx i) : Mid (w.setCell ⟨g, n0, none⟩ (cc.getD (2 * k + 1) undef)) base (.slice (some ⟨g, 0, none⟩) d.secs.length c) v' d sc cc fps fcs idx' := by
  have hn := h.nodup
  rw [List.nodup_append] at hn
  obtain ⟨hn1, hn2, hn3⟩ := hn
  have hgm : g ∈ (Value.slice (some ⟨g, 0, none⟩) d.secs.length c).ownBlock.toList ++ fps.flatten := by simp [Value.ownBlock]
  have hg1 : ∀ a, a ∈ fps.flatten → a ≠ g := fun a ha e => (List.nodup_append.1 hn1).2.2 g (by simp [Value.ownBlock]) a ha e.symm
  have hg2 : ∀ a, a ∈ v'.ownBlock.toList ++ fcs.flatten → a ≠ g := fun a ha e => hn3 g hgm a ha e.symm
  refine ⟨?_, Rep.ownsRow_block h.crow fun a ha => heap_setCell_other _ _ _ _ (hg2 a (List.mem_append_left _ ha)),
   fun i x f hx hf => byR.kept (h.secs i x f hx hf) fun a ha => heap_setCell_other _ _ _ _ (hg1 a (Rep.mem_flatten_of hf ha)),
   fun i x f hx hf => wrR.kept (h.cache i x f hx hf) fun a ha => heap_setCell_other _ _ _ _ (hg2 a (List.mem_append_right _ (Rep.mem_flatten_of hf ha))), h.slen, h.clen, h.sclen, h.nodup⟩
  rw [mixC_step h0 hi]
  exact (h.row.stored n0 _).1
theorem flat_disj {fps : List (List Nat)} (h : fps.flatten.Nodup) {i j : Nat} (hij : i ≠ j) {a : Nat} (hi : a ∈ fps.getD i []) (hj : a ∈ fps.getD j []) : False := by
 have hpw := (List.pairwise_flatten.1 (show List.Pairwise (· ≠ ·) fps.flatten from h)).2
 rw [List.pairwise_iff_getElem] at hpw
 have key1 : ∀ i, a ∈ fps.getD i [] → ∃ h : i < fps.length, a ∈ fps[i] := by
  intro i hi
  rcases Nat.lt_or_ge i fps.length with h' | h'
  ·exact ⟨h', by rw [List.getD_eq_getElem?_getD, List.getElem?_eq_getElem h'] at hi; exact hi⟩
  ·rw [List.getD_eq_getElem?_getD, List.getElem?_eq_none h'] at hi; cases hi
 obtain ⟨h1, h1'⟩ := key1 i hi
 obtain ⟨h2, h2'⟩ := key1 j hj
 rcases Nat.lt_or_gt_of_ne hij with hlt | hgt
 ·exact hpw i j h1 h2 hlt a h1' a h2' rfl
 ·exact hpw j i h2 h1 hgt a h2' a h1' rfl
theorem getD_mem {fps : List (List Nat)} {i a : Nat} (h : a ∈ fps.getD i []) : a ∈ fps.flatten := by
 rcases Nat.lt_or_ge i fps.length with h' | h'
 ·rw [List.getD_eq_getElem?_getD, List.getElem?_eq_getElem h'] at h
  exact Rep.mem_flatten_of (List.getElem?_eq_getElem h') h
 ·rw [List.getD_eq_getElem?_getD, List.getElem?_eq_none h'] at h; cases h
theorem flat_one {fps : List (List Nat)} (h : fps.flatten.Nodup) (i : Nat) : (fps.getD i []).Nodup := by
 have hpw := (List.pairwise_flatten.1 (show List.Pairwise (· ≠ ·) fps.flatten from h)).1
 rcases Nat.lt_or_ge i fps.length with h' | h'
 ·rw [List.getD_eq_getElem?_getD, List.getElem?_eq_getElem h']
  exact hpw _ (List.getElem_mem h')
 ·rw [List.getD_eq_getElem?_getD, List.getElem?_eq_none h']
  exact List.nodup_nil
def fpAt (fps fcs : List (List Nat)) (idx : Int → Option Nat) (i : Nat) : List Nat := match idx (i : Int) with | some j => fcs.getD j [] | none => fps.getD i []
theorem wr_byte {w : World} {base k : Nat} {cells : List Value} {x : Wr} {f : List Nat} (h : wrR.own w base (Rep.seg 2 k cells) x f) : byR.own w base [cells.getD (2 * k + 1) undef] x.b f := by
 have hl : (Rep.seg 2 k cells).length = 2 := Rep.len wrR (Rep.reads wrR h)
 obtain ⟨f1, f2, ⟨h1, h1'⟩, h2, hf, hn⟩ := h
 subst h1'
 have h1 := Rep.seg_get (size := 2) (i := k) (j := 1) (cells := cells) (by omega)
 have e : (Rep.seg 2 k cells).drop 1 = [cells.getD (2 * k + 1) undef] := by
  rw [List.getD_eq_getElem?_getD, show 2 * k + 1 = k * 2 + 1 by omega, ← h1]
  match hs : Rep.seg 2 k cells, hl with
  | [a, b], _ => rfl
 replace h2 : byR.own w base ((Rep.seg 2 k cells).drop 1) x.b f2 := h2
 rw [e] at h2
 rw [hf]
 exact h2
theorem Mid.done {w : World} {base : Nat} {v v' : Value} {d : Disk} {sc cc : List Value} {fps fcs : List (List Nat)} {idx : Int → Option Nat} (h : Mid w base v v' d sc cc fps fcs idx) (hi : IdxOk d idx) :
  ∃ fp, Rep.OwnRows byR 22 w base v (flushSecs d idx) fp ∧ ∀ a, a ∈ fp → a ∈ (v.ownBlock.toList ++ fps.flatten) ++ (v'.ownBlock.toList ++ fcs.flatten) := by
 have hn := h.nodup
 rw [List.nodup_append] at hn
 obtain ⟨hn1, hn2, hn3⟩ := hn
 have hs := (List.nodup_append.1 hn1)
 have hc := (List.nodup_append.1 hn2)
 have hmem : ∀ i a, a ∈ fpAt fps fcs idx i → a ∈ fps.flatten ∨ a ∈ fcs.flatten := by
  intro i a ha
  unfold fpAt at ha
  split at ha
  ·exact .inr (getD_mem ha)
  ·exact .inl (getD_mem ha)
 have hmem2 : ∀ a, a ∈ ((List.range d.secs.length).map (fpAt fps fcs idx)).flatten → a ∈ fps.flatten ∨ a ∈ fcs.flatten := by
  intro a ha
  rw [List.mem_flatten] at ha
  obtain ⟨l, hl, hal⟩ := ha
  rw [List.mem_map] at hl
  obtain ⟨i, _, rfl⟩ := hl
  exact hmem i a hal
 refine ⟨v.ownBlock.toList ++ ((List.range d.secs.length).map (fpAt fps fcs idx)).flatten, ⟨mixC d.secs.length sc cc idx, (List.range d.secs.length).map (fpAt fps fcs idx), by rw [flushSecs_length]; exact h.row, by simp [flushSecs], ?_, rfl, ?_⟩, ?_⟩
 ·intro i x f hx hf
  have hin : i < d.secs.length := by
   have := (List.getElem?_eq_some_iff.1 hx).1
   rwa [flushSecs_length] at this
  have hx' : secAt d idx i = x := by
   unfold flushSecs at hx
   rw [List.getElem?_map, List.getElem?_range hin] at hx
   injection hx
  have hf' : fpAt fps fcs idx i = f := by
   rw [List.getElem?_map, List.getElem?_range hin] at hf
   injection hf
  have hseg : Rep.seg 1 i (mixC d.secs.length sc cc idx) = [secCell sc cc idx i] := by
   refine Rep.seg_ext (n := d.secs.length) (by rw [mixC_length]; omega) hin rfl fun j hj => ?_
   have : j = 0 := by omega
   subst this
   rw [show i * 1 + 0 = i by omega, mixC_get _ _ _ hin]
   rfl
  show byR.own w base (Rep.seg 1 i (mixC d.secs.length sc cc idx)) x f
  rw [hseg, ← hx', ← hf']
  unfold secCell secAt fpAt
  rcases he : idx (i : Int) with _ | j
  ·have hsx : d.secs[i]? = some (d.secs.getD i []) := by rw [List.getD_eq_getElem?_getD, List.getElem?_eq_getElem hin]; rfl
   have hsf : fps[i]? = some (fps.getD i []) := by rw [List.getD_eq_getElem?_getD, List.getElem?_eq_getElem (by rw [h.slen]; exact hin)]; rfl
   have := h.secs i _ _ hsx hsf
   have e : Rep.seg 1 i sc = [sc.getD i undef] := by
    refine Rep.seg_ext (n := d.secs.length) (by rw [h.sclen]; omega) hin rfl fun j hj => ?_
    have : j = 0 := by omega
    subst this
    rw [show i * 1 + 0 = i by omega, List.getD_eq_getElem?_getD, List.getElem?_eq_getElem (by rw [h.sclen]; exact hin)]
    rfl
   rw [e] at this
   exact this
  ·obtain ⟨y, hy, hyn⟩ := hi i j he
   have hj : j < d.cache.length := (List.getElem?_eq_some_iff.1 hy).1
   have hsf : fcs[j]? = some (fcs.getD j []) := by rw [List.getD_eq_getElem?_getD, List.getElem?_eq_getElem (by rw [h.clen]; exact hj)]; rfl
   have := wr_byte (h.cache j _ _ hy hsf)
   have e : (d.cache.getD j ⟨0, []⟩) = y := by rw [List.getD_eq_getElem?_getD, hy]; rfl
   show byR.own w base [cc.getD (2 * j + 1) undef] (d.cache.getD j ⟨0, []⟩).b (fcs.getD j [])
   rw [e]
   exact this
 ·rw [List.nodup_append]
  refine ⟨hs.1, ?_, ?_⟩
  ·refine List.pairwise_flatten.2 ⟨?_, ?_⟩
   ·intro l hl
    rw [List.mem_map] at hl
    obtain ⟨i, _, rfl⟩ := hl
    show (fpAt fps fcs idx i).Nodup
    unfold fpAt
    split
    ·exact flat_one hc.2.1 _
    ·exact flat_one hs.2.1 _
   ·rw [List.pairwise_map]
    refine List.Pairwise.imp ?_ List.pairwise_lt_range
    intro i i' hlt a ha b hb e
    subst e
    unfold fpAt at ha hb
    rcases he : idx (i : Int) with _ | j <;> rcases he' : idx (i' : Int) with _ | j' <;> rw [he] at ha <;> rw [he'] at hb
    ·exact flat_disj hs.2.1 (by omega) ha hb
    ·exact hn3 a (List.mem_append_right _ (getD_mem ha)) a (List.mem_append_right _ (getD_mem hb)) rfl
    ·exact hn3 a (List.mem_append_right _ (getD_mem hb)) a (List.mem_append_right _ (getD_mem ha)) rfl
    ·refine flat_disj hc.2.1 (fun e => ?_) ha hb
     subst e
     obtain ⟨y, hy, hyn⟩ := hi _ _ he
     obtain ⟨y', hy', hyn'⟩ := hi _ _ he'
     rw [hy] at hy'
     injection hy' with hy'
     subst hy'
     omega
  ·intro a ha b hb e
   subst e
   rcases hmem2 a hb with hb | hb
   ·exact hs.2.2 a ha a hb rfl
   ·exact hn3 a (List.mem_append_left _ ha) a (List.mem_append_right _ hb) rfl
 ·intro a ha
  rw [List.mem_append] at ha
  rcases ha with ha | ha
  ·exact List.mem_append_left _ (List.mem_append_left _ ha)
  ·rcases hmem2 a ha with hb | hb
   ·exact List.mem_append_left _ (List.mem_append_right _ hb)
   ·exact List.mem_append_right _ (List.mem_append_right _ hb)
theorem Mid.block {w : World} {base c : Nat} {A : Option Addr} {v' : Value} {d : Disk} {sc cc : List Value} {fps fcs : List (List Nat)} {idx : Int → Option Nat} (h : Mid w base (.slice A d.secs.length c) v' d sc cc fps fcs idx) (h1 : 1 ≤ d.secs.length) : ∃ g, A = some ⟨g, 0, none⟩ ∧ base ≤ g ∧ g < w.heap.size := by
 rcases h.row.2 with ⟨_, h0⟩ | ⟨g, cap, cur, hv, _⟩
 ·omega
 ·injection hv with hv _ _
  subst hv
  exact ⟨g, rfl, h.row.lt g rfl⟩
theorem Mid.there {w : World} {base g c n0 : Nat} {v' : Value} {d : Disk} {sc cc : List Value} {fps fcs : List (List Nat)} {idx : Int → Option Nat} (h : Mid w base (.slice (some ⟨g, 0, none⟩) d.secs.length c) v' d sc cc fps fcs idx) (h0 : n0 < d.secs.length) : (∃ u, w.cell? ⟨g, n0, none⟩ = some u) ∧ w.frozen? ⟨g, n0, none⟩ = false := by
 have hc := h.row.cellAt n0 (by omega)
 rw [mixC_get _ _ _ h0] at hc
 exact ⟨⟨_, hc⟩, h.row.frozenAt n0⟩
theorem Mid.elem {w : World} {base c k : Nat} {B : Option Addr} {v : Value} {d : Disk} {sc cc : List Value} {fps fcs : List (List Nat)} {idx : Int → Option Nat} (h : Mid w base v (.slice B d.cache.length c) d sc cc fps fcs idx) (hk : k < d.cache.length) :
  ∃ b off A2 c2 x, B = some ⟨b, off, none⟩ ∧ b < w.heap.size ∧ d.cache[k]? = some x ∧ w.cell? ⟨b, off + k * 2, none⟩ = some (.int .i64 x.n) ∧ w.cell? ⟨b, off + k * 2 + 1, none⟩ = some (.slice A2 x.b.length c2) ∧ cc.getD (2 * k + 1) undef = .slice A2 x.b.length c2 := by
 have hr : Reads w w.heap.size 2 B d.cache.length cc := Reads.of_own h.crow
 obtain ⟨x, hx⟩ := Rep.getElem?_of_lt (xs := d.cache) rfl hk
 obtain ⟨f, hf⟩ := Rep.getElem?_of_lt (xs := fcs) rfl (show k < fcs.length by rw [h.clen]; exact hk)
 obtain ⟨A2, c2, hseg, hgd, _, _⟩ := wr_seg (Rep.reads wrR (h.cache k x f hx hf)) (by have := h.crow.1; omega)
 obtain ⟨b, off, rfl, hbl, hcell⟩ := reads_cells hr hk (by decide)
 rw [hseg] at hcell
 exact ⟨b, off, A2, c2, x, rfl, hbl, hx, hcell 0 _ rfl, hcell 1 _ rfl, hgd⟩
theorem Mid.lts {w : World} {base : Nat} {v v' : Value} {d : Disk} {sc cc : List Value} {fps fcs : List (List Nat)} {idx : Int → Option Nat} (h : Mid w base v v' d sc cc fps fcs idx) : ∀ a, a ∈ (v.ownBlock.toList ++ fps.flatten) ++ (v'.ownBlock.toList ++ fcs.flatten) → base ≤ a ∧ a < w.heap.size := by
 intro a ha
 have flat : ∀ {l : List (List Nat)}, a ∈ l.flatten → ∃ (i : Nat) (f : List Nat), l[i]? = some f ∧ a ∈ f := by
  intro l hl
  rw [List.mem_flatten] at hl
  obtain ⟨f, hf, haf⟩ := hl
  obtain ⟨i, hi⟩ := List.getElem?_of_mem hf
  exact ⟨i, f, hi, haf⟩
 simp only [List.mem_append] at ha
 rcases ha with (ha | ha) | (ha | ha)
 ·exact h.row.lt a (by simpa using ha)
 ·obtain ⟨i, f, hf, haf⟩ := flat ha
  obtain ⟨x, hx⟩ := Rep.getElem?_of_lt (xs := d.secs) rfl (show i < d.secs.length by have := (List.getElem?_eq_some_iff.1 hf).1; have := h.slen; omega)
  exact Rep.lt byR (h.secs i x f hx hf) a haf
 ·exact h.crow.lt a (by simpa using ha)
 ·obtain ⟨i, f, hf, haf⟩ := flat ha
  obtain ⟨x, hx⟩ := Rep.getElem?_of_lt (xs := d.cache) rfl (show i < d.cache.length by have := (List.getElem?_eq_some_iff.1 hf).1; have := h.clen; omega)
  exact Rep.lt wrR (h.cache i x f hx hf) a haf
theorem no_cache (w : World) (e : TypeId) {g : Nat} (hg : g = w.heap.size) : Rep.OwnRows wrR e (w.alloc (.cells #[] e)) w.heap.size (.slice (some ⟨g, 0, none⟩) 0 0) [] [g] := by
 subst hg
 exact ⟨[], [], Rep.lit_empty w e 2 rfl, rfl, fun i x f hx => (by cases hx), by simp [Value.ownBlock], by simp⟩
theorem nil_cache (w : World) (base : Nat) (e : TypeId) : Rep.OwnRows wrR e w base (.slice none 0 0) [] [] :=
 ⟨[], [], ⟨rfl, .inl ⟨rfl, rfl⟩⟩, rfl, fun i x f hx => (by cases hx), by simp [Value.ownBlock], by simp⟩
def SyncGood (d : Disk) : Prop := DiskGood d ∧ d.down = false
noncomputable def syncDisk (d : Disk) : Disk :=
 @ite _ (SyncGood d) (Classical.propDecidable _) (if d.fuse = 0 then ⟨d.secs, d.cache, -1, true⟩ else ⟨flushSecs d (idxC (key d.cache) d.cache.length), [], fuseAfter d.fuse, d.down⟩) d
theorem syncDisk_no {d : Disk} (h : ¬ SyncGood d) : syncDisk d = d := by unfold syncDisk; exact @if_neg _ (Classical.propDecidable _) h _ _ _
theorem syncDisk_zero {d : Disk} (h : SyncGood d) (h0 : d.fuse = 0) : syncDisk d = ⟨d.secs, d.cache, -1, true⟩ := by
 unfold syncDisk
 rw [@if_pos _ (Classical.propDecidable _) h, if_pos h0]
theorem syncDisk_go {d : Disk} (h : SyncGood d) (h0 : d.fuse ≠ 0) : syncDisk d = ⟨flushSecs d (idxC (key d.cache) d.cache.length), [], fuseAfter d.fuse, d.down⟩ := by
 unfold syncDisk
 rw [@if_pos _ (Classical.propDecidable _) h, if_neg h0]
theorem flush_small {d : Disk} (h : Fits d) {idx : Int → Option Nat} (hi : IdxOk d idx) : ∀ b, b ∈ flushSecs d idx → b.length ≤ 1048576 := by
 intro b hb
 unfold flushSecs at hb
 rw [List.mem_map] at hb
 obtain ⟨i, hi1, rfl⟩ := hb
 rw [List.mem_range] at hi1
 unfold secAt
 rcases he : idx (i : Int) with _ | j
 ·show (d.secs.getD i []).length ≤ _
  rw [List.getD_eq_getElem?_getD, List.getElem?_eq_getElem hi1]
  exact h.2.1 _ (List.getElem_mem hi1)
 ·obtain ⟨y, hy, _⟩ := hi i j he
  show (d.cache.getD j ⟨0, []⟩).b.length ≤ _
  rw [List.getD_eq_getElem?_getD, hy]
  exact h.2.2.2 y (List.mem_of_getElem? hy)
theorem fits_syncDisk {d : Disk} (h : Fits d) : Fits (syncDisk d) := by
 by_cases hg : SyncGood d
 ·by_cases h0 : d.fuse = 0
  ·rw [syncDisk_zero hg h0]; exact h
  ·rw [syncDisk_go hg h0]
   exact ⟨by rw [show (Disk.mk (flushSecs d (idxC (key d.cache) d.cache.length)) [] (fuseAfter d.fuse) d.down).secs = flushSecs d (idxC (key d.cache) d.cache.length) from rfl, flushSecs_length]; exact h.1, flush_small h (idx_ok d _ (Nat.le_refl _)), Nat.zero_le _, fun x hx => by cases hx⟩
 ·rw [syncDisk_no hg]; exact h
set_option maxRecDepth 100000 in
set_option maxHeartbeats 4000000 in
theorem syncDiskS_any (cs : List Value) (d : Disk) (w : World) (h : diskR.at_ w w.heap.size cs d) (hf : Fits d) :
  Calls Tryz.prog 41 #[.agg cs.toArray] w (RetDisk w (syncDisk d)) := by
 obtain ⟨Ad, cd, Bd, ed, rfl⟩ := disk_at_shape h
 have Td := h
 clear h
 have HBw := Below.refl w.heap.size w
 obtain ⟨y, hy⟩ : ∃ y, diskOk d = y := ⟨_, rfl⟩
 have HOK := Lib.hid hy
 clear hy
 have f1 := hf.1
 have f3 := hf.2.2.1
 go_enter Tryz.func41, Tryz.ntmps41
 go_wp2_with fail
 have ho := Rep.only_alloc w (.cells #[.slice Ad d.secs.length cd, .slice Bd d.cache.length ed, .int .i64 d.fuse, .bool d.down] 27)
 have hv := heap_alloc_new w (.cells #[.slice Ad d.secs.length cd, .slice Bd d.cache.length ed, .int .i64 d.fuse, .bool d.down] 27)
 have hs : (w.alloc (.cells #[.slice Ad d.secs.length cd, .slice Bd d.cache.length ed, .int .i64 d.fuse, .bool d.down] 27)).heap.size = w.heap.size + 1 := by simp
 generalize hgW : w.alloc (.cells #[.slice Ad d.secs.length cd, .slice Bd d.cache.length ed, .int .i64 d.fuse, .bool d.down] 27) = W1 at ho hv hs ⊢
 clear hgW
 have SW1 : w.heap.size ≤ W1.heap.size := ho.size
 have HBW1 := Rep.Only.below HBw ho (by omega) (fun a ha => by cases ha)
 replace Td := Rep.at_only Td ho (by omega) (fun a ha => by cases ha)
 clear HBw
 have Vd := Lib.hid hv
 clear hv ho
 have ZW1 : w.heap.size < W1.heap.size := by omega
 have EW1 := Lib.hid hs
 clear hs
 have ho := Rep.only_alloc W1 (.cells #[.slice none 0 0, .slice none 0 0, .int .i64 0, .bool false] 27)
 have hv := heap_alloc_new' W1 (.cells #[.slice none 0 0, .slice none 0 0, .int .i64 0, .bool false] 27) (n := w.heap.size + 1) (by have := EW1.out; omega)
 have hs : (W1.alloc (.cells #[.slice none 0 0, .slice none 0 0, .int .i64 0, .bool false] 27)).heap.size = W1.heap.size + 1 := by simp
 generalize hgW : W1.alloc (.cells #[.slice none 0 0, .slice none 0 0, .int .i64 0, .bool false] 27) = W2 at ho hv hs ⊢
 clear hgW
 have SW2 : W1.heap.size ≤ W2.heap.size := ho.size
 have HBW2 := Rep.Only.below HBW1 ho (by omega) (fun a ha => by cases ha)
 replace Td := Rep.at_only Td ho (by omega) (fun a ha => by cases ha)
 replace Vd := Rep.var_only Vd ho (by omega) (fun hb => by cases hb)
 clear HBW1
 have Vr := Lib.hid hv
 clear hv ho
 have ZW2 : W1.heap.size < W2.heap.size := by omega
 have YW2 : w.heap.size + 1 < W2.heap.size := by have := EW1.out; omega
 have EW2 := Lib.hid hs
 clear hs
 refine (l2Copy_any [.slice Ad d.secs.length cd, .slice Bd d.cache.length ed, .int .i64 d.fuse, .bool d.down] d W2 (Rep.more diskR Td (by omega)) hf).mono ?_
 rintro e W3 ⟨cs, fp4, rfl, Oo, hb⟩
 obtain ⟨A5, c6, B7, d8, rfl⟩ := disk_own_shape Oo
 have ho := Rep.only_of_below hb
 have L9 := Lib.hid (Rep.lt diskR Oo)
 clear hb
 have SW3 : W2.heap.size ≤ W3.heap.size := ho.size
 have HBW3 := Rep.Only.below HBW2 ho (by omega) (fun a ha => by cases ha)
 replace Td := Rep.at_only Td ho (by omega) (fun a ha => by cases ha)
 replace Vd := Rep.var_only Vd ho (by omega) (fun hb => by cases hb)
 replace Vr := Rep.var_only Vr ho (by omega) (fun hb => by cases hb)
 clear HBW2
 clear ho
 have qd_0 : W3.cell? ⟨w.heap.size, 0, none⟩ = some (.slice Ad d.secs.length cd) := var_cell Vd.out 0
 have qd_1 : W3.cell? ⟨w.heap.size, 1, none⟩ = some (.slice Bd d.cache.length ed) := var_cell Vd.out 1
 have qd_2 : W3.cell? ⟨w.heap.size, 2, none⟩ = some (.int .i64 d.fuse) := var_cell Vd.out 2
 have qd_3 : W3.cell? ⟨w.heap.size, 3, none⟩ = some (.bool d.down) := var_cell Vd.out 3
 have ld : w.heap.size < W3.heap.size := by omega
 go_wp2_with fail
 clear qd_0 qd_1 qd_2 qd_3 ld
 have ho := Rep.only_alloc W3 (.cells #[.slice A5 d.secs.length c6, .slice B7 d.cache.length d8, .int .i64 d.fuse, .bool d.down] 27)
 have hv := heap_alloc_new W3 (.cells #[.slice A5 d.secs.length c6, .slice B7 d.cache.length d8, .int .i64 d.fuse, .bool d.down] 27)
 have hs : (W3.alloc (.cells #[.slice A5 d.secs.length c6, .slice B7 d.cache.length d8, .int .i64 d.fuse, .bool d.down] 27)).heap.size = W3.heap.size + 1 := by simp
 generalize hgW : W3.alloc (.cells #[.slice A5 d.secs.length c6, .slice B7 d.cache.length d8, .int .i64 d.fuse, .bool d.down] 27) = W10 at ho hv hs ⊢
 clear hgW
 have SW10 : W3.heap.size ≤ W10.heap.size := ho.size
 have HBW10 := Rep.Only.below HBW3 ho (by omega) (fun a ha => by cases ha)
 replace Td := Rep.at_only Td ho (by omega) (fun a ha => by cases ha)
 replace Oo := Rep.own_only Oo ho (fun a ha hb => by cases hb)
 replace Vd := Rep.var_only Vd ho (by omega) (fun hb => by cases hb)
 replace Vr := Rep.var_only Vr ho (by omega) (fun hb => by cases hb)
 clear HBW3
 have Vo := Lib.hid hv
 clear hv ho
 have ZW10 : W3.heap.size < W10.heap.size := by omega
 have EW10 := Lib.hid hs
 clear hs
 refine (diskOkS_any [.slice Ad d.secs.length cd, .slice Bd d.cache.length ed, .int .i64 d.fuse, .bool d.down] d W10 (Rep.more diskR Td (by omega)) hf).mono ?_
 rintro e W11 ⟨rfl, hb⟩
 rw [HOK.out]
 have ho := Rep.only_of_below hb
 clear hb
 have SW11 : W10.heap.size ≤ W11.heap.size := ho.size
 have HBW11 := Rep.Only.below HBW10 ho (by omega) (fun a ha => by cases ha)
 replace Td := Rep.at_only Td ho (by omega) (fun a ha => by cases ha)
 replace Oo := Rep.own_only Oo ho (fun a ha hb => by cases hb)
 replace Vd := Rep.var_only Vd ho (by omega) (fun hb => by cases hb)
 replace Vr := Rep.var_only Vr ho (by omega) (fun hb => by cases hb)
 replace Vo := Rep.var_only Vo ho (by omega) (fun hb => by cases hb)
 clear HBW10
 clear ho
 cases y with
 | false =>
  have HR := Lib.hid (syncDisk_no (fun hh => diskOk_bad HOK.out hh.1))
  have qo_0 : W11.cell? ⟨W3.heap.size, 0, none⟩ = some (.slice A5 d.secs.length c6) := var_cell Vo.out 0
  have qo_1 : W11.cell? ⟨W3.heap.size, 1, none⟩ = some (.slice B7 d.cache.length d8) := var_cell Vo.out 1
  have qo_2 : W11.cell? ⟨W3.heap.size, 2, none⟩ = some (.int .i64 d.fuse) := var_cell Vo.out 2
  have qo_3 : W11.cell? ⟨W3.heap.size, 3, none⟩ = some (.bool d.down) := var_cell Vo.out 3
  have lo : W3.heap.size < W11.heap.size := by omega
  have qd_0 : W11.cell? ⟨w.heap.size, 0, none⟩ = some (.slice Ad d.secs.length cd) := var_cell Vd.out 0
  have qd_1 : W11.cell? ⟨w.heap.size, 1, none⟩ = some (.slice Bd d.cache.length ed) := var_cell Vd.out 1
  have qd_2 : W11.cell? ⟨w.heap.size, 2, none⟩ = some (.int .i64 d.fuse) := var_cell Vd.out 2
  have qd_3 : W11.cell? ⟨w.heap.size, 3, none⟩ = some (.bool d.down) := var_cell Vd.out 3
  have ld : w.heap.size < W11.heap.size := by omega
  have qr_0 : W11.cell? ⟨w.heap.size + 1, 0, none⟩ = some (.slice none 0 0) := var_cell Vr.out 0
  have qr_1 : W11.cell? ⟨w.heap.size + 1, 1, none⟩ = some (.slice none 0 0) := var_cell Vr.out 1
  have qr_2 : W11.cell? ⟨w.heap.size + 1, 2, none⟩ = some (.int .i64 0) := var_cell Vr.out 2
  have qr_3 : W11.cell? ⟨w.heap.size + 1, 3, none⟩ = some (.bool false) := var_cell Vr.out 3
  have lr : w.heap.size + 1 < W11.heap.size := by omega
  have fr_0 := var_frozen Vr.out 0
  have fr_1 := var_frozen Vr.out 1
  have fr_2 := var_frozen Vr.out 2
  have fr_3 := var_frozen Vr.out 3
  go_wp2_with fail
  refine bodyPost_ret (v := .agg #[.slice A5 d.secs.length c6, .slice B7 d.cache.length d8, .int .i64 d.fuse, .bool d.down]) (by simp [results, Tryz.results41, go_sem, qr_0, qr_1, qr_2, qr_3]) rfl ⟨_, fp4, rfl, ?_, ?_⟩
  ·rw [HR.out]; refine diskR.low (base := W2.heap.size) ?_ (by omega)
   repeat (refine Rep.setLow ?_ (by first | (simp; done) | (simp; omega)) _)
   exact Oo
  ·repeat (refine Below.setCell ?_ (by first | (simp; done) | (simp; omega)) _)
   exact HBW11
 | true =>
  have hg := diskOk_good HOK.out
  rcases hdn : d.down with _ | _
  rotate_left
  ·have HR := Lib.hid (syncDisk_no (d := d) (fun hh => by have := hh.2; rw [hdn] at this; cases this))
   have qo_0 : W11.cell? ⟨W3.heap.size, 0, none⟩ = some (.slice A5 d.secs.length c6) := var_cell Vo.out 0
   have qo_1 : W11.cell? ⟨W3.heap.size, 1, none⟩ = some (.slice B7 d.cache.length d8) := var_cell Vo.out 1
   have qo_2 : W11.cell? ⟨W3.heap.size, 2, none⟩ = some (.int .i64 d.fuse) := var_cell Vo.out 2
   have qo_3 : W11.cell? ⟨W3.heap.size, 3, none⟩ = some (.bool d.down) := var_cell Vo.out 3
   have lo : W3.heap.size < W11.heap.size := by omega
   have qd_0 : W11.cell? ⟨w.heap.size, 0, none⟩ = some (.slice Ad d.secs.length cd) := var_cell Vd.out 0
   have qd_1 : W11.cell? ⟨w.heap.size, 1, none⟩ = some (.slice Bd d.cache.length ed) := var_cell Vd.out 1
   have qd_2 : W11.cell? ⟨w.heap.size, 2, none⟩ = some (.int .i64 d.fuse) := var_cell Vd.out 2
   have qd_3 : W11.cell? ⟨w.heap.size, 3, none⟩ = some (.bool d.down) := var_cell Vd.out 3
   have ld : w.heap.size < W11.heap.size := by omega
   have qr_0 : W11.cell? ⟨w.heap.size + 1, 0, none⟩ = some (.slice none 0 0) := var_cell Vr.out 0
   have qr_1 : W11.cell? ⟨w.heap.size + 1, 1, none⟩ = some (.slice none 0 0) := var_cell Vr.out 1
   have qr_2 : W11.cell? ⟨w.heap.size + 1, 2, none⟩ = some (.int .i64 0) := var_cell Vr.out 2
   have qr_3 : W11.cell? ⟨w.heap.size + 1, 3, none⟩ = some (.bool false) := var_cell Vr.out 3
   have lr : w.heap.size + 1 < W11.heap.size := by omega
   have fr_0 := var_frozen Vr.out 0
   have fr_1 := var_frozen Vr.out 1
   have fr_2 := var_frozen Vr.out 2
   have fr_3 := var_frozen Vr.out 3
   go_wp2_with fail
   refine bodyPost_ret (v := .agg #[.slice A5 d.secs.length c6, .slice B7 d.cache.length d8, .int .i64 d.fuse, .bool d.down]) (by simp [results, Tryz.results41, go_sem, qr_0, qr_1, qr_2, qr_3, hdn]) rfl ⟨_, fp4, rfl, ?_, ?_⟩
   ·rw [HR.out]; refine diskR.low (base := W2.heap.size) ?_ (by omega)
    repeat (refine Rep.setLow ?_ (by first | (simp; done) | (simp; omega)) _)
    exact Oo
   ·repeat (refine Below.setCell ?_ (by first | (simp; done) | (simp; omega)) _)
    exact HBW11
  have HG : Hid (SyncGood d) := Lib.hid ⟨hg, hdn⟩
  have hfu1 : -1 ≤ d.fuse := hg.2.2.2.1
  have hfu2 : d.fuse ≤ 1000 := hg.2.2.2.2
  have h30 : d.cache.length ≤ 30 := hg.1.2.2
  obtain ⟨u1, u2, ff, fc, hcs, ho1, ho2, hfp, hnd⟩ := disk_inv Oo
  have e1 : u1 = .slice A5 d.secs.length c6 := by injection hcs with h1 _; exact h1.symm
  have e2 : u2 = .slice B7 d.cache.length d8 := by injection hcs with _ h2; injection h2 with h2 _; exact h2.symm
  subst e1 e2
  clear hcs
  have HN := Lib.hid hnd
  have HFP := Lib.hid hfp
  clear hnd hfp Oo
  have LS := Lib.hid (fun a ha => L9.out a (by rw [HFP.out]; exact List.mem_append_left _ ha))
  have LC := Lib.hid (fun a ha => L9.out a (by rw [HFP.out]; exact List.mem_append_right _ ha))
  by_cases hz : d.fuse = 0
  ·have HR := Lib.hid (syncDisk_zero HG.out hz)
   have Vz : Hid (W11.heap[W3.heap.size]? = some (.cells #[.slice A5 d.secs.length c6, .slice B7 d.cache.length d8, .int .i64 0, .bool d.down] 27 (0, 0))) := Lib.hid (by have := Vo.out; rw [hz] at this; exact this)
   clear hz
   have qd_0 : W11.cell? ⟨w.heap.size, 0, none⟩ = some (.slice Ad d.secs.length cd) := var_cell Vd.out 0
   have qd_1 : W11.cell? ⟨w.heap.size, 1, none⟩ = some (.slice Bd d.cache.length ed) := var_cell Vd.out 1
   have qd_2 : W11.cell? ⟨w.heap.size, 2, none⟩ = some (.int .i64 d.fuse) := var_cell Vd.out 2
   have qd_3 : W11.cell? ⟨w.heap.size, 3, none⟩ = some (.bool d.down) := var_cell Vd.out 3
   have ld : w.heap.size < W11.heap.size := by omega
   go_wp2_with fail
   clear qd_0 qd_1 qd_2 qd_3 ld
   refine (l2Fuse_zero W3.heap.size (.slice A5 d.secs.length c6) (.slice B7 d.cache.length d8) d.down W11 Vz.out).mono ?_
   rintro e W12 ⟨rfl, vv, ho⟩
   have LF := Lib.hid (fun a (ha : a ∈ [W3.heap.size]) => (by simp at ha; omega : W3.heap.size ≤ a ∧ a < W3.heap.size + 1))
   replace ho1 := ho1.kept (fun a ha => ho.block a (by have := (LS.out a ha).2; omega) (by have := (LS.out a ha).2; simp; omega))
   replace ho2 := ho2.kept (fun a ha => ho.block a (by have := (LC.out a ha).2; omega) (by have := (LC.out a ha).2; simp; omega))
   have SW12 : W11.heap.size ≤ W12.heap.size := ho.size
   have HBW12 := Rep.Only.below HBW11 ho (by omega) (fun a ha => by have := (LF.out a ha).1; omega)
   replace Td := Rep.at_only Td ho (by omega) (fun a ha => by have := (LF.out a ha).1; omega)
   replace Vd := Rep.var_only Vd ho (by omega) (fun hb => by have := LF.out _ hb; omega)
   replace Vr := Rep.var_only Vr ho (by omega) (fun hb => by have := LF.out _ hb; omega)
   clear HBW11
   clear ho LF
   clear Vo
   have Vo := vv
   clear vv
   have qo_0 : W12.cell? ⟨W3.heap.size, 0, none⟩ = some (.slice A5 d.secs.length c6) := var_cell Vo.out 0
   have qo_1 : W12.cell? ⟨W3.heap.size, 1, none⟩ = some (.slice B7 d.cache.length d8) := var_cell Vo.out 1
   have qo_2 : W12.cell? ⟨W3.heap.size, 2, none⟩ = some (.int .i64 (-1)) := var_cell Vo.out 2
   have qo_3 : W12.cell? ⟨W3.heap.size, 3, none⟩ = some (.bool true) := var_cell Vo.out 3
   have lo : W3.heap.size < W12.heap.size := by omega
   have qr_0 : W12.cell? ⟨w.heap.size + 1, 0, none⟩ = some (.slice none 0 0) := var_cell Vr.out 0
   have qr_1 : W12.cell? ⟨w.heap.size + 1, 1, none⟩ = some (.slice none 0 0) := var_cell Vr.out 1
   have qr_2 : W12.cell? ⟨w.heap.size + 1, 2, none⟩ = some (.int .i64 0) := var_cell Vr.out 2
   have qr_3 : W12.cell? ⟨w.heap.size + 1, 3, none⟩ = some (.bool false) := var_cell Vr.out 3
   have lr : w.heap.size + 1 < W12.heap.size := by omega
   have fr_0 := var_frozen Vr.out 0
   have fr_1 := var_frozen Vr.out 1
   have fr_2 := var_frozen Vr.out 2
   have fr_3 := var_frozen Vr.out 3
   go_wp2_with fail
   refine bodyPost_ret (v := .agg #[.slice A5 d.secs.length c6, .slice B7 d.cache.length d8, .int .i64 (-1), .bool true]) (by simp [results, Tryz.results41, go_sem, qr_0, qr_1, qr_2, qr_3]) rfl ⟨_, ff ++ fc, rfl, ?_, ?_⟩
   ·rw [HR.out]; refine diskR.low (base := W2.heap.size) ?_ (by omega)
    repeat (refine Rep.setLow ?_ (by first | (simp; done) | (simp; omega)) _)
    exact disk_own2 (d := ⟨d.secs, d.cache, -1, true⟩) ho1 ho2 (by rw [← HFP.out]; exact HN.out)
   ·repeat (refine Below.setCell ?_ (by first | (simp; done) | (simp; omega)) _)
    exact HBW12
  have HR := Lib.hid (syncDisk_go HG.out hz)
  have HZ := Lib.hid hz
  clear hz
  have qd_0 : W11.cell? ⟨w.heap.size, 0, none⟩ = some (.slice Ad d.secs.length cd) := var_cell Vd.out 0
  have qd_1 : W11.cell? ⟨w.heap.size, 1, none⟩ = some (.slice Bd d.cache.length ed) := var_cell Vd.out 1
  have qd_2 : W11.cell? ⟨w.heap.size, 2, none⟩ = some (.int .i64 d.fuse) := var_cell Vd.out 2
  have qd_3 : W11.cell? ⟨w.heap.size, 3, none⟩ = some (.bool d.down) := var_cell Vd.out 3
  have ld : w.heap.size < W11.heap.size := by omega
  go_wp2_with fail
  clear qd_0 qd_1 qd_2 qd_3 ld
  refine (l2Fuse_go W3.heap.size (.slice A5 d.secs.length c6) (.slice B7 d.cache.length d8) d.fuse d.down W11 Vo.out HZ.out hfu1 hfu2).mono ?_
  rintro e W13 ⟨rfl, vv, ho⟩
  have LF := Lib.hid (fun a (ha : a ∈ [W3.heap.size]) => (by simp at ha; omega : W3.heap.size ≤ a ∧ a < W3.heap.size + 1))
  replace ho1 := ho1.kept (fun a ha => ho.block a (by have := (LS.out a ha).2; omega) (by have := (LS.out a ha).2; simp; omega))
  replace ho2 := ho2.kept (fun a ha => ho.block a (by have := (LC.out a ha).2; omega) (by have := (LC.out a ha).2; simp; omega))
  have SW13 : W11.heap.size ≤ W13.heap.size := ho.size
  have HBW13 := Rep.Only.below HBW11 ho (by omega) (fun a ha => by have := (LF.out a ha).1; omega)
  replace Td := Rep.at_only Td ho (by omega) (fun a ha => by have := (LF.out a ha).1; omega)
  replace Vd := Rep.var_only Vd ho (by omega) (fun hb => by have := LF.out _ hb; omega)
  replace Vr := Rep.var_only Vr ho (by omega) (fun hb => by have := LF.out _ hb; omega)
  clear HBW11
  clear ho LF
  clear Vo
  have Vo := vv
  clear vv
  obtain ⟨sc, ccs, fps, fcs, hff, hfc, hM⟩ := Mid.start ho1 ho2 (by rw [← HFP.out]; exact HN.out)
  have LM := Lib.hid (fun a (ha : a ∈ ((Value.slice A5 d.secs.length c6).ownBlock.toList ++ fps.flatten) ++ ((Value.slice B7 d.cache.length d8).ownBlock.toList ++ fcs.flatten)) => (show W2.heap.size ≤ a ∧ a < W3.heap.size from by rcases List.mem_append.1 ha with h | h; exact LS.out a (by rw [hff]; exact h); exact LC.out a (by rw [hfc]; exact h)))
  have hl1 : 1 ≤ d.secs.length := hg.1.1
  have f40 : d.secs.length ≤ 40 := hg.1.2.1
  have HWO := Lib.hid (fun x (hx : x ∈ d.cache) => hg.2.2.1 x hx)
  obtain ⟨gs, hgs, hgs1, _⟩ := hM.block hl1
  subst hgs
  have hgs2 : gs < W3.heap.size := (LM.out gs (by simp [Value.ownBlock])).2
  clear hg ho1 ho2 hff hfc
  replace hM := hM.weak (idx' := idxC (key d.cache) 0) (fun _ => rfl)
  have hz0 := Nat.le_refl W13.heap.size
  go_wp2_with fail
  go_loopw [4] (fun i wr => ∃ k : Nat, k ≤ d.cache.length ∧ i = .int .i64 k ∧ Mid wr W2.heap.size (.slice (some ⟨gs, 0, none⟩) d.secs.length c6) (.slice B7 d.cache.length d8) d sc ccs fps fcs (idxC (key d.cache) k) ∧ Hid (wr.heap[W3.heap.size]? = some (.cells #[.slice (some ⟨gs, 0, none⟩) d.secs.length c6, .slice B7 d.cache.length d8, .int .i64 (fuseAfter d.fuse), .bool d.down] 27 (0, 0))) ∧ Hid (wr.heap[w.heap.size + 1]? = some (.cells #[.slice none 0 0, .slice none 0 0, .int .i64 0, .bool false] 27 (0, 0))) ∧ Below w.heap.size w wr ∧ W13.heap.size ≤ wr.heap.size) (fun i _ => d.cache.length - (intOf i).toNat)
  case atStart => exact ⟨0, by omega, rfl, hM, Vo, Vr, HBW13, hz0⟩
  case round =>
   obtain ⟨k, hk, rfl, hM, vo, vr, hb, hz⟩ := hrel
   clear Vo Vr HBW13 hz0
   by_cases hlt : k < d.cache.length
   ·obtain ⟨b, off, A2, c2, x, rfl, hbl, hx, e0, e1, hgd⟩ := hM.elem hlt
    obtain ⟨hx0, hx1, _⟩ := HWO.out x (List.mem_of_getElem? hx)
    obtain ⟨n0, hn0⟩ := Int.eq_ofNat_of_zero_le hx0
    rw [hn0] at e0
    have hn1 : n0 < d.secs.length := by omega
    have HX := Lib.hid hx
    have HN0 := Lib.hid hn0
    have HGD := Lib.hid hgd
    obtain ⟨⟨u0, hcl⟩, hfr⟩ := hM.there hn1
    clear hx hn0 hgd hx0 hx1
    have i1 : (0 : Int) ≤ (k : Int) := by omega
    have i2 : (k : Int) < (d.cache.length : Int) := by omega
    have i3 : (0 : Int) ≤ (n0 : Int) := by omega
    have i4 : (n0 : Int) < (d.secs.length : Int) := by omega
    have e00 : wr.cell? ⟨W3.heap.size, 0, none⟩ = some (.slice (some ⟨gs, 0, none⟩) d.secs.length c6) := var_cell vo.out 0
    have e01 : wr.cell? ⟨W3.heap.size, 1, none⟩ = some (.slice (some ⟨b, off, none⟩) d.cache.length d8) := var_cell vo.out 1
    go_wp2_with fail
    refine wp_region_lex' 15 [0, 1, 2, 3, 4, 5, 6, 7, 8, 9, 10, 11, 12, 13, 14] [15] (fun w' => w'.cell? ⟨W3.heap.size, 0, none⟩ = some (.slice (some ⟨gs, 0, none⟩) d.secs.length c6) ∧ w'.cell? ⟨W3.heap.size, 1, none⟩ = some (.slice (some ⟨b, off, none⟩) d.cache.length d8) ∧ w'.cell? ⟨b, off + k * 2, none⟩ = some (.int .i64 n0) ∧ w'.cell? ⟨b, off + k * 2 + 1, none⟩ = some (.slice A2 x.b.length c2)) (by kernel_rfl) (by kernel_rfl) ⟨e00, e01, e0, e1⟩ ?_
    iterate 15 (refine LexR.cons rfl ?_ (fun w' hw => ?_) ?_; rotate_left; focus (obtain ⟨e1, e2, e3, e4⟩ := hw; go_simp; (try exact rfl)); (try go_frame))
    refine LexR.nil (LexW.cons rfl ?_)
    try go_frame
    go_wp2_with fail
    refine ⟨fun h => absurd rfl h, LexW.nil ?_⟩
    have hM2 := hM.store (k := k) (idx' := idxC (key d.cache) (k + 1)) hn1 ?hstep
    rotate_left
    ·intro i
     show (if key d.cache k i = true then some k else idxC (key d.cache) k i) = _
     rw [key_eq HX.out i]
     rw [HN0.out]
     by_cases he : (n0 : Int) = i
     ·rw [if_pos he, if_pos (by simpa using he)]
     ·rw [if_neg he, if_neg (by simpa using he)]
    rw [HGD.out] at hM2
    replace hM2 := hM2.kept (w' := (wr.setCell ⟨gs, n0, none⟩ (.slice A2 x.b.length c2)).drew) (fun _ _ => rfl)
    have hq1 : (wr.setCell ⟨gs, n0, none⟩ (.slice A2 x.b.length c2)).drew.heap[W3.heap.size]? = wr.heap[W3.heap.size]? := heap_setCell_other wr ⟨gs, n0, none⟩ (W3.heap.size) (.slice A2 x.b.length c2) (by simp; omega)
    have hq2 : (wr.setCell ⟨gs, n0, none⟩ (.slice A2 x.b.length c2)).drew.heap[w.heap.size + 1]? = wr.heap[w.heap.size + 1]? := heap_setCell_other wr ⟨gs, n0, none⟩ (w.heap.size + 1) (.slice A2 x.b.length c2) (by simp; omega)
    have VO2 := Lib.hid (hq1.trans vo.out)
    have VR2 := Lib.hid (hq2.trans vr.out)
    have HB2 : Below w.heap.size w (wr.setCell ⟨gs, n0, none⟩ (.slice A2 x.b.length c2)).drew := belowD (hb.setCell (p := ⟨gs, n0, none⟩) (by simp; omega) (.slice A2 x.b.length c2)) 1
    have hz2 : W13.heap.size ≤ (wr.setCell ⟨gs, n0, none⟩ (.slice A2 x.b.length c2)).drew.heap.size := by simpa using hz
    generalize hgw : (wr.setCell ⟨gs, n0, none⟩ (.slice A2 x.b.length c2)).drew = w2 at hM2 VO2 VR2 HB2 hz2 ⊢
    clear hgw hq1 hq2 hM vo vr hb hz e0 e1 e00 e01 hcl hfr
    go_wp2_with fail
    go_roundw
    case rel => exact ⟨k + 1, by omega, by go_num, hM2, VO2, VR2, HB2, hz2⟩
    case measure => simp [intOf]; omega
   ·have he : k = d.cache.length := by omega
    subst he
    obtain ⟨fp9, hfl, hmem⟩ := hM.done (idx_ok d _ (Nat.le_refl _))
    have HM9 := Lib.hid (fun a ha => LM.out a (hmem a ha))
    clear hM hmem
    have HBr := hb
    have e00 : wr.cell? ⟨W3.heap.size, 0, none⟩ = some (.slice (some ⟨gs, 0, none⟩) d.secs.length c6) := var_cell vo.out 0
    have e01 : wr.cell? ⟨W3.heap.size, 1, none⟩ = some (.slice B7 d.cache.length d8) := var_cell vo.out 1
    have e02 : wr.cell? ⟨W3.heap.size, 2, none⟩ = some (.int .i64 (fuseAfter d.fuse)) := var_cell vo.out 2
    have e03 : wr.cell? ⟨W3.heap.size, 3, none⟩ = some (.bool d.down) := var_cell vo.out 3
    have f01 := var_frozen vo.out 1
    have lo : W3.heap.size < wr.heap.size := by omega
    have Vr := vr
    have qr_0 : wr.cell? ⟨w.heap.size + 1, 0, none⟩ = some (.slice none 0 0) := var_cell Vr.out 0
    have qr_1 : wr.cell? ⟨w.heap.size + 1, 1, none⟩ = some (.slice none 0 0) := var_cell Vr.out 1
    have qr_2 : wr.cell? ⟨w.heap.size + 1, 2, none⟩ = some (.int .i64 0) := var_cell Vr.out 2
    have qr_3 : wr.cell? ⟨w.heap.size + 1, 3, none⟩ = some (.bool false) := var_cell Vr.out 3
    have lr : w.heap.size + 1 < wr.heap.size := by omega
    have fr_0 := var_frozen Vr.out 0
    have fr_1 := var_frozen Vr.out 1
    have fr_2 := var_frozen Vr.out 2
    have fr_3 := var_frozen Vr.out 3
    go_wp2_with fail
    refine bodyPost_ret (v := .agg #[.slice (some ⟨gs, 0, none⟩) d.secs.length c6, .slice (some ⟨wr.heap.size, 0, none⟩) 0 0, .int .i64 (fuseAfter d.fuse), .bool d.down]) (by simp [results, Tryz.results41, go_sem, lr, qr_0, qr_1, qr_2, qr_3, hdn]) rfl ⟨_, fp9 ++ [wr.heap.size], rfl, ?_, ?_⟩
    ·rw [HR.out]; refine diskR.low (base := W2.heap.size) ?_ (by omega)
     refine disk_own2 (d := ⟨flushSecs d (idxC (key d.cache) d.cache.length), [], fuseAfter d.fuse, d.down⟩) (hfl.kept fun a ha => ?_) ((no_cache _ _ (by simp)).low (by simp; omega)) (Rep.nodup_append_of (Rep.nodup secsR (w := wr) (base := W2.heap.size) (cs := [.slice (some ⟨gs, 0, none⟩) d.secs.length c6]) ⟨_, rfl, hfl⟩) (by simp) (fun a ha hc => by have := (HM9.out a ha).2; simp at hc; omega))
     have h9 := HM9.out a ha
     rw [Below.heap_alloc _ _ _ (by simp; omega)]
     repeat rw [heap_setCell_other _ _ _ _ (by simp; omega)]
    ·refine Below.alloc ?_ (by simp; have := hb.size; omega) _
     repeat (refine Below.setCell ?_ (by first | (simp; done) | (simp; omega)) _)
     exact hb
end Go.Proofs.YtoaaogacaibedaaGreatDoor
