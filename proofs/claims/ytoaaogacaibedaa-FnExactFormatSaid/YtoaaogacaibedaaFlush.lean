/- The cached writes are laid into the sectors. -/
import Derived.Test.YtoaaogacaibedaaDriveWrite
namespace Go.Proofs.Ytoaaogacaibedaa
open Go.RowKit Go.Maps
set_option linter.unusedVariables false

def secCell (sc cc : List Value) (idx : Int → Option Nat) (i : Nat) : Value := match idx (i : Int) with | some j => cc.getD (2 * j + 1) undef | none => sc.getD i undef
def mixC (n : Nat) (sc cc : List Value) (idx : Int → Option Nat) : List Value := (List.range n).map (secCell sc cc idx)
theorem mixC_length (n : Nat) (sc cc : List Value) (idx : Int → Option Nat) : (mixC n sc cc idx).length = n := by simp [mixC]
theorem mixC_get {n i : Nat} (sc cc : List Value) (idx : Int → Option Nat) (h : i < n) : (mixC n sc cc idx)[i]? = some (secCell sc cc idx i) := by
  unfold mixC
  rw [List.getElem?_map, List.getElem?_range h]
  rfl
theorem mixC_none (sc cc : List Value) : mixC sc.length sc cc (fun _ => none) = sc := by
  refine List.ext_getElem? fun i => ?_
  by_cases h : i < sc.length
  · rw [mixC_get _ _ _ h, List.getElem?_eq_getElem h]
    show some (sc.getD i undef) = _
    rw [List.getD_eq_getElem?_getD, List.getElem?_eq_getElem h]
    rfl
  · rw [List.getElem?_eq_none (by rw [mixC_length]; omega), List.getElem?_eq_none (by omega)]
theorem mixC_step {n n0 k : Nat} {sc cc : List Value} {idx idx' : Int → Option Nat} (h : n0 < n) (hi : ∀ i, idx' i = if (n0 : Int) = i then some k else idx i) : mixC n sc cc idx' = (mixC n sc cc idx).set n0 (cc.getD (2 * k + 1) undef) := by
  refine List.ext_getElem? fun i => ?_
  rw [List.getElem?_set]
  by_cases hin : i < n
  · rw [mixC_get _ _ _ hin, mixC_get _ _ _ hin, mixC_length]
    have e : secCell sc cc idx' i = if n0 = i then cc.getD (2 * k + 1) undef else secCell sc cc idx i := by
      unfold secCell
      rw [hi i]
      by_cases he : n0 = i
      · rw [if_pos he, if_pos (by omega)]
      · rw [if_neg he, if_neg (by omega)]
    rw [e]
    by_cases he : n0 = i
    · rw [if_pos he, if_pos he, if_pos (by omega)]
    · rw [if_neg he, if_neg he]
  · rw [List.getElem?_eq_none (by rw [mixC_length]; omega), List.getElem?_eq_none (by rw [mixC_length]; omega)]
    rw [if_neg (by omega)]

/-- Sector i when the writes of the index are laid over the sectors. -/
def secAt (d : Disk) (idx : Int → Option Nat) (i : Nat) : List UInt8 := match idx (i : Int) with | some j => (d.cache.getD j ⟨0, []⟩).b | none => d.secs.getD i []
def flushSecs (d : Disk) (idx : Int → Option Nat) : List (List UInt8) := (List.range d.secs.length).map (secAt d idx)
theorem flushSecs_length (d : Disk) (idx : Int → Option Nat) : (flushSecs d idx).length = d.secs.length := by simp [flushSecs]

def IdxOk (d : Disk) (idx : Int → Option Nat) : Prop := ∀ i j, idx i = some j → ∃ x, d.cache[j]? = some x ∧ x.n = i
theorem idx_ok (d : Disk) (k : Nat) (hk : k ≤ d.cache.length) : IdxOk d (idxC (key d.cache) k) := by
  intro i j h
  obtain ⟨h1, h2⟩ := idxC_lt h
  obtain ⟨x, hx⟩ := Rep.getElem?_of_lt (xs := d.cache) rfl (show j < d.cache.length by omega)
  rw [key_eq hx] at h2
  exact ⟨x, hx, by simpa using h2⟩

/-- Sectors of the call's own over which the writes of the index are laid; the cache is the call's own too. -/
structure Mid (w : World) (base : Nat) (v v' : Value) (d : Disk) (sc cc : List Value) (fps fcs : List (List Nat)) (idx : Int → Option Nat) : Prop where
  row : w.ownsRow base 22 1 v d.secs.length (mixC d.secs.length sc cc idx)
  crow : w.ownsRow base 70 2 v' d.cache.length cc
  secs : ∀ i x f, d.secs[i]? = some x → fps[i]? = some f → byR.own w base (Rep.seg 1 i sc) x f
  cache : ∀ i x f, d.cache[i]? = some x → fcs[i]? = some f → wrR.own w base (Rep.seg 2 i cc) x f
  slen : fps.length = d.secs.length
  clen : fcs.length = d.cache.length
  sclen : sc.length = d.secs.length
  nodup : ((v.ownBlock.toList ++ fps.flatten) ++ (v'.ownBlock.toList ++ fcs.flatten)).Nodup

theorem Mid.start {w : World} {base : Nat} {v v' : Value} {d : Disk} {f f' : List Nat} (h : Rep.OwnRows byR 22 w base v d.secs f) (h' : Rep.OwnRows wrR 70 w base v' d.cache f') (hn : (f ++ f').Nodup) :
    ∃ sc cc fps fcs, f = v.ownBlock.toList ++ fps.flatten ∧ f' = v'.ownBlock.toList ++ fcs.flatten ∧ Mid w base v v' d sc cc fps fcs (fun _ => none) := by
  obtain ⟨sc, fps, ho, hl, he, hf, hn1⟩ := h
  obtain ⟨cc, fcs, ho', hl', he', hf', hn1'⟩ := h'
  have hsl : sc.length = d.secs.length := by have := ho.1; replace this : sc.length = d.secs.length * 1 := this; omega
  refine ⟨sc, cc, fps, fcs, hf, hf', ?_, ho', he, he', hl, hl', hsl, by rw [← hf, ← hf']; exact hn⟩
  have := mixC_none sc cc
  rw [hsl] at this
  rw [this]
  exact ho

theorem Mid.kept {w w' : World} {base : Nat} {v v' : Value} {d : Disk} {sc cc : List Value} {fps fcs : List (List Nat)} {idx : Int → Option Nat} (h : Mid w base v v' d sc cc fps fcs idx) (hb : ∀ a, a ∈ (v.ownBlock.toList ++ fps.flatten) ++ (v'.ownBlock.toList ++ fcs.flatten) → w'.heap[a]? = w.heap[a]?) : Mid w' base v v' d sc cc fps fcs idx :=
  ⟨Rep.ownsRow_block h.row fun a ha => hb a (by simp [List.mem_append] at ha ⊢; simp [ha]), Rep.ownsRow_block h.crow fun a ha => hb a (by simp [List.mem_append] at ha ⊢; simp [ha]),
   fun i x f hx hf => byR.kept (h.secs i x f hx hf) fun a ha => hb a (by rw [List.mem_append]; exact .inl (List.mem_append_right _ (Rep.mem_flatten_of hf ha))),
   fun i x f hx hf => wrR.kept (h.cache i x f hx hf) fun a ha => hb a (by rw [List.mem_append]; exact .inr (List.mem_append_right _ (Rep.mem_flatten_of hf ha))), h.slen, h.clen, h.sclen, h.nodup⟩

theorem Mid.weak {w : World} {base : Nat} {v v' : Value} {d : Disk} {sc cc : List Value} {fps fcs : List (List Nat)} {idx idx' : Int → Option Nat} (h : Mid w base v v' d sc cc fps fcs idx) (he : ∀ i, idx i = idx' i) : Mid w base v v' d sc cc fps fcs idx' := by
  have : idx = idx' := funext he
  subst this
  exact h

theorem Mid.store {w : World} {base g c n0 k : Nat} {v' : Value} {d : Disk} {sc cc : List Value} {fps fcs : List (List Nat)} {idx idx' : Int → Option Nat} (h : Mid w base (.slice (some ⟨g, 0, none⟩) d.secs.length c) v' d sc cc fps fcs idx) (h0 : n0 < d.secs.length)
    (hi : ∀ i, idx' i = if (n0 : Int) = i then some k else idx i) : Mid (w.setCell ⟨g, n0, none⟩ (cc.getD (2 * k + 1) undef)) base (.slice (some ⟨g, 0, none⟩) d.secs.length c) v' d sc cc fps fcs idx' := by
  have hn := h.nodup
  rw [List.nodup_append] at hn
  obtain ⟨hn1, hn2, hn3⟩ := hn
  have hgm : g ∈ (Value.slice (some ⟨g, 0, none⟩) d.secs.length c).ownBlock.toList ++ fps.flatten := by simp [Value.ownBlock]
  have hg1 : ∀ a, a ∈ fps.flatten → a ≠ g := fun a ha e => (List.nodup_append.1 hn1).2.2 g (by simp [Value.ownBlock]) a ha e.symm
  have hg2 : ∀ a, a ∈ v'.ownBlock.toList ++ fcs.flatten → a ≠ g := fun a ha e => hn3 g hgm a ha e.symm
  refine ⟨?_, Rep.ownsRow_block h.crow fun a ha => heap_setCell_other _ _ _ _ (hg2 a (List.mem_append_left _ ha)),
   fun i x f hx hf => byR.kept (h.secs i x f hx hf) fun a ha => heap_setCell_other _ _ _ _ (hg1 a (Rep.mem_flatten_of hf ha)),
   fun i x f hx hf => wrR.kept (h.cache i x f hx hf) fun a ha => heap_setCell_other _ _ _ _ (hg2 a (List.mem_append_right _ (Rep.mem_flatten_of hf ha))), h.slen, h.clen, h.sclen, h.nodup⟩
  rw [mixC_step h0 hi]
  exact (h.row.stored n0 _).1

theorem flat_disj {fps : List (List Nat)} (h : fps.flatten.Nodup) {i j : Nat} (hij : i ≠ j) {a : Nat} (hi : a ∈ fps.getD i []) (hj : a ∈ fps.getD j []) : False := by
  have hpw := (List.pairwise_flatten.1 (show List.Pairwise (· ≠ ·) fps.flatten from h)).2
  rw [List.pairwise_iff_getElem] at hpw
  have key1 : ∀ i, a ∈ fps.getD i [] → ∃ h : i < fps.length, a ∈ fps[i] := by
    intro i hi
    rcases Nat.lt_or_ge i fps.length with h' | h'
    · exact ⟨h', by rw [List.getD_eq_getElem?_getD, List.getElem?_eq_getElem h'] at hi; exact hi⟩
    · rw [List.getD_eq_getElem?_getD, List.getElem?_eq_none h'] at hi; cases hi
  obtain ⟨h1, h1'⟩ := key1 i hi
  obtain ⟨h2, h2'⟩ := key1 j hj
  rcases Nat.lt_or_gt_of_ne hij with hlt | hgt
  · exact hpw i j h1 h2 hlt a h1' a h2' rfl
  · exact hpw j i h2 h1 hgt a h2' a h1' rfl
theorem getD_mem {fps : List (List Nat)} {i a : Nat} (h : a ∈ fps.getD i []) : a ∈ fps.flatten := by
  rcases Nat.lt_or_ge i fps.length with h' | h'
  · rw [List.getD_eq_getElem?_getD, List.getElem?_eq_getElem h'] at h
    exact Rep.mem_flatten_of (List.getElem?_eq_getElem h') h
  · rw [List.getD_eq_getElem?_getD, List.getElem?_eq_none h'] at h; cases h
theorem flat_one {fps : List (List Nat)} (h : fps.flatten.Nodup) (i : Nat) : (fps.getD i []).Nodup := by
  have hpw := (List.pairwise_flatten.1 (show List.Pairwise (· ≠ ·) fps.flatten from h)).1
  rcases Nat.lt_or_ge i fps.length with h' | h'
  · rw [List.getD_eq_getElem?_getD, List.getElem?_eq_getElem h']
    exact hpw _ (List.getElem_mem h')
  · rw [List.getD_eq_getElem?_getD, List.getElem?_eq_none h']
    exact List.nodup_nil

def fpAt (fps fcs : List (List Nat)) (idx : Int → Option Nat) (i : Nat) : List Nat := match idx (i : Int) with | some j => fcs.getD j [] | none => fps.getD i []

theorem wr_byte {w : World} {base k : Nat} {cells : List Value} {x : Wr} {f : List Nat} (h : wrR.own w base (Rep.seg 2 k cells) x f) : byR.own w base [cells.getD (2 * k + 1) undef] x.b f := by
  have hl : (Rep.seg 2 k cells).length = 2 := Rep.len wrR (Rep.reads wrR h)
  obtain ⟨f1, f2, ⟨h1, h1'⟩, h2, hf, hn⟩ := h
  subst h1'
  have h1 := Rep.seg_get (size := 2) (i := k) (j := 1) (cells := cells) (by omega)
  have e : (Rep.seg 2 k cells).drop 1 = [cells.getD (2 * k + 1) undef] := by
    rw [List.getD_eq_getElem?_getD, show 2 * k + 1 = k * 2 + 1 by omega, ← h1]
    match hs : Rep.seg 2 k cells, hl with
    | [a, b], _ => rfl
  replace h2 : byR.own w base ((Rep.seg 2 k cells).drop 1) x.b f2 := h2
  rw [e] at h2
  rw [hf]
  exact h2

theorem Mid.done {w : World} {base : Nat} {v v' : Value} {d : Disk} {sc cc : List Value} {fps fcs : List (List Nat)} {idx : Int → Option Nat} (h : Mid w base v v' d sc cc fps fcs idx) (hi : IdxOk d idx) :
    ∃ fp, Rep.OwnRows byR 22 w base v (flushSecs d idx) fp ∧ ∀ a, a ∈ fp → a ∈ (v.ownBlock.toList ++ fps.flatten) ++ (v'.ownBlock.toList ++ fcs.flatten) := by
  have hn := h.nodup
  rw [List.nodup_append] at hn
  obtain ⟨hn1, hn2, hn3⟩ := hn
  have hs := (List.nodup_append.1 hn1)
  have hc := (List.nodup_append.1 hn2)
  have hmem : ∀ i a, a ∈ fpAt fps fcs idx i → a ∈ fps.flatten ∨ a ∈ fcs.flatten := by
    intro i a ha
    unfold fpAt at ha
    split at ha
    · exact .inr (getD_mem ha)
    · exact .inl (getD_mem ha)
  have hmem2 : ∀ a, a ∈ ((List.range d.secs.length).map (fpAt fps fcs idx)).flatten → a ∈ fps.flatten ∨ a ∈ fcs.flatten := by
    intro a ha
    rw [List.mem_flatten] at ha
    obtain ⟨l, hl, hal⟩ := ha
    rw [List.mem_map] at hl
    obtain ⟨i, _, rfl⟩ := hl
    exact hmem i a hal
  refine ⟨v.ownBlock.toList ++ ((List.range d.secs.length).map (fpAt fps fcs idx)).flatten, ⟨mixC d.secs.length sc cc idx, (List.range d.secs.length).map (fpAt fps fcs idx), by rw [flushSecs_length]; exact h.row, by simp [flushSecs], ?_, rfl, ?_⟩, ?_⟩
  · intro i x f hx hf
    have hin : i < d.secs.length := by
      have := (List.getElem?_eq_some_iff.1 hx).1
      rwa [flushSecs_length] at this
    have hx' : secAt d idx i = x := by
      unfold flushSecs at hx
      rw [List.getElem?_map, List.getElem?_range hin] at hx
      injection hx
    have hf' : fpAt fps fcs idx i = f := by
      rw [List.getElem?_map, List.getElem?_range hin] at hf
      injection hf
    have hseg : Rep.seg 1 i (mixC d.secs.length sc cc idx) = [secCell sc cc idx i] := by
      refine Rep.seg_ext (n := d.secs.length) (by rw [mixC_length]; omega) hin rfl fun j hj => ?_
      have : j = 0 := by omega
      subst this
      rw [show i * 1 + 0 = i by omega, mixC_get _ _ _ hin]
      rfl
    show byR.own w base (Rep.seg 1 i (mixC d.secs.length sc cc idx)) x f
    rw [hseg, ← hx', ← hf']
    unfold secCell secAt fpAt
    rcases he : idx (i : Int) with _ | j
    · have hsx : d.secs[i]? = some (d.secs.getD i []) := by rw [List.getD_eq_getElem?_getD, List.getElem?_eq_getElem hin]; rfl
      have hsf : fps[i]? = some (fps.getD i []) := by rw [List.getD_eq_getElem?_getD, List.getElem?_eq_getElem (by rw [h.slen]; exact hin)]; rfl
      have := h.secs i _ _ hsx hsf
      have e : Rep.seg 1 i sc = [sc.getD i undef] := by
        refine Rep.seg_ext (n := d.secs.length) (by rw [h.sclen]; omega) hin rfl fun j hj => ?_
        have : j = 0 := by omega
        subst this
        rw [show i * 1 + 0 = i by omega, List.getD_eq_getElem?_getD, List.getElem?_eq_getElem (by rw [h.sclen]; exact hin)]
        rfl
      rw [e] at this
      exact this
    · obtain ⟨y, hy, hyn⟩ := hi i j he
      have hj : j < d.cache.length := (List.getElem?_eq_some_iff.1 hy).1
      have hsf : fcs[j]? = some (fcs.getD j []) := by rw [List.getD_eq_getElem?_getD, List.getElem?_eq_getElem (by rw [h.clen]; exact hj)]; rfl
      have := wr_byte (h.cache j _ _ hy hsf)
      have e : (d.cache.getD j ⟨0, []⟩) = y := by rw [List.getD_eq_getElem?_getD, hy]; rfl
      show byR.own w base [cc.getD (2 * j + 1) undef] (d.cache.getD j ⟨0, []⟩).b (fcs.getD j [])
      rw [e]
      exact this
  · rw [List.nodup_append]
    refine ⟨hs.1, ?_, ?_⟩
    · refine List.pairwise_flatten.2 ⟨?_, ?_⟩
      · intro l hl
        rw [List.mem_map] at hl
        obtain ⟨i, _, rfl⟩ := hl
        show (fpAt fps fcs idx i).Nodup
        unfold fpAt
        split
        · exact flat_one hc.2.1 _
        · exact flat_one hs.2.1 _
      · rw [List.pairwise_map]
        refine List.Pairwise.imp ?_ List.pairwise_lt_range
        intro i i' hlt a ha b hb e
        subst e
        unfold fpAt at ha hb
        rcases he : idx (i : Int) with _ | j <;> rcases he' : idx (i' : Int) with _ | j' <;> rw [he] at ha <;> rw [he'] at hb
        · exact flat_disj hs.2.1 (by omega) ha hb
        · exact hn3 a (List.mem_append_right _ (getD_mem ha)) a (List.mem_append_right _ (getD_mem hb)) rfl
        · exact hn3 a (List.mem_append_right _ (getD_mem hb)) a (List.mem_append_right _ (getD_mem ha)) rfl
        · refine flat_disj hc.2.1 (fun e => ?_) ha hb
          subst e
          obtain ⟨y, hy, hyn⟩ := hi _ _ he
          obtain ⟨y', hy', hyn'⟩ := hi _ _ he'
          rw [hy] at hy'
          injection hy' with hy'
          subst hy'
          omega
    · intro a ha b hb e
      subst e
      rcases hmem2 a hb with hb | hb
      · exact hs.2.2 a ha a hb rfl
      · exact hn3 a (List.mem_append_left _ ha) a (List.mem_append_right _ hb) rfl
  · intro a ha
    rw [List.mem_append] at ha
    rcases ha with ha | ha
    · exact List.mem_append_left _ (List.mem_append_left _ ha)
    · rcases hmem2 a ha with hb | hb
      · exact List.mem_append_left _ (List.mem_append_right _ hb)
      · exact List.mem_append_right _ (List.mem_append_right _ hb)

theorem Mid.block {w : World} {base c : Nat} {A : Option Addr} {v' : Value} {d : Disk} {sc cc : List Value} {fps fcs : List (List Nat)} {idx : Int → Option Nat} (h : Mid w base (.slice A d.secs.length c) v' d sc cc fps fcs idx) (h1 : 1 ≤ d.secs.length) : ∃ g, A = some ⟨g, 0, none⟩ ∧ base ≤ g ∧ g < w.heap.size := by
  rcases h.row.2 with ⟨_, h0⟩ | ⟨g, cap, cur, hv, _⟩
  · omega
  · injection hv with hv _ _
    subst hv
    exact ⟨g, rfl, h.row.lt g rfl⟩
theorem Mid.there {w : World} {base g c n0 : Nat} {v' : Value} {d : Disk} {sc cc : List Value} {fps fcs : List (List Nat)} {idx : Int → Option Nat} (h : Mid w base (.slice (some ⟨g, 0, none⟩) d.secs.length c) v' d sc cc fps fcs idx) (h0 : n0 < d.secs.length) : (∃ u, w.cell? ⟨g, n0, none⟩ = some u) ∧ w.frozen? ⟨g, n0, none⟩ = false := by
  have hc := h.row.cellAt n0 (by omega)
  rw [mixC_get _ _ _ h0] at hc
  exact ⟨⟨_, hc⟩, h.row.frozenAt n0⟩
theorem Mid.elem {w : World} {base c k : Nat} {B : Option Addr} {v : Value} {d : Disk} {sc cc : List Value} {fps fcs : List (List Nat)} {idx : Int → Option Nat} (h : Mid w base v (.slice B d.cache.length c) d sc cc fps fcs idx) (hk : k < d.cache.length) :
    ∃ b off A2 c2 x, B = some ⟨b, off, none⟩ ∧ b < w.heap.size ∧ d.cache[k]? = some x ∧ w.cell? ⟨b, off + k * 2, none⟩ = some (.int .i64 x.n) ∧ w.cell? ⟨b, off + k * 2 + 1, none⟩ = some (.slice A2 x.b.length c2) ∧ cc.getD (2 * k + 1) undef = .slice A2 x.b.length c2 := by
  have hr : Reads w w.heap.size 2 B d.cache.length cc := Reads.of_own h.crow
  obtain ⟨x, hx⟩ := Rep.getElem?_of_lt (xs := d.cache) rfl hk
  obtain ⟨f, hf⟩ := Rep.getElem?_of_lt (xs := fcs) rfl (show k < fcs.length by rw [h.clen]; exact hk)
  obtain ⟨A2, c2, hseg, hgd, _, _⟩ := wr_seg (Rep.reads wrR (h.cache k x f hx hf)) (by have := h.crow.1; omega)
  obtain ⟨b, off, rfl, hbl, hcell⟩ := reads_cells hr hk (by decide)
  rw [hseg] at hcell
  exact ⟨b, off, A2, c2, x, rfl, hbl, hx, hcell 0 _ rfl, hcell 1 _ rfl, hgd⟩
theorem Mid.lts {w : World} {base : Nat} {v v' : Value} {d : Disk} {sc cc : List Value} {fps fcs : List (List Nat)} {idx : Int → Option Nat} (h : Mid w base v v' d sc cc fps fcs idx) : ∀ a, a ∈ (v.ownBlock.toList ++ fps.flatten) ++ (v'.ownBlock.toList ++ fcs.flatten) → base ≤ a ∧ a < w.heap.size := by
  intro a ha
  have flat : ∀ {l : List (List Nat)}, a ∈ l.flatten → ∃ (i : Nat) (f : List Nat), l[i]? = some f ∧ a ∈ f := by
    intro l hl
    rw [List.mem_flatten] at hl
    obtain ⟨f, hf, haf⟩ := hl
    obtain ⟨i, hi⟩ := List.getElem?_of_mem hf
    exact ⟨i, f, hi, haf⟩
  simp only [List.mem_append] at ha
  rcases ha with (ha | ha) | (ha | ha)
  · exact h.row.lt a (by simpa using ha)
  · obtain ⟨i, f, hf, haf⟩ := flat ha
    obtain ⟨x, hx⟩ := Rep.getElem?_of_lt (xs := d.secs) rfl (show i < d.secs.length by have := (List.getElem?_eq_some_iff.1 hf).1; have := h.slen; omega)
    exact Rep.lt byR (h.secs i x f hx hf) a haf
  · exact h.crow.lt a (by simpa using ha)
  · obtain ⟨i, f, hf, haf⟩ := flat ha
    obtain ⟨x, hx⟩ := Rep.getElem?_of_lt (xs := d.cache) rfl (show i < d.cache.length by have := (List.getElem?_eq_some_iff.1 hf).1; have := h.clen; omega)
    exact Rep.lt wrR (h.cache i x f hx hf) a haf
theorem no_cache (w : World) (e : TypeId) {g : Nat} (hg : g = w.heap.size) : Rep.OwnRows wrR e (w.alloc (.cells #[] e)) w.heap.size (.slice (some ⟨g, 0, none⟩) 0 0) [] [g] := by
  subst hg
  exact ⟨[], [], Rep.lit_empty w e 2 rfl, rfl, fun i x f hx => (by cases hx), by simp [Value.ownBlock], by simp⟩
theorem nil_cache (w : World) (base : Nat) (e : TypeId) : Rep.OwnRows wrR e w base (.slice none 0 0) [] [] :=
  ⟨[], [], ⟨rfl, .inl ⟨rfl, rfl⟩⟩, rfl, fun i x f hx => (by cases hx), by simp [Value.ownBlock], by simp⟩

def SyncGood (d : Disk) : Prop := DiskGood d ∧ d.down = false
noncomputable def syncDisk (d : Disk) : Disk :=
  @ite _ (SyncGood d) (Classical.propDecidable _) (if d.fuse = 0 then ⟨d.secs, d.cache, -1, true⟩ else ⟨flushSecs d (idxC (key d.cache) d.cache.length), [], fuseAfter d.fuse, d.down⟩) d
theorem syncDisk_no {d : Disk} (h : ¬ SyncGood d) : syncDisk d = d := by unfold syncDisk; exact @if_neg _ (Classical.propDecidable _) h _ _ _
theorem syncDisk_zero {d : Disk} (h : SyncGood d) (h0 : d.fuse = 0) : syncDisk d = ⟨d.secs, d.cache, -1, true⟩ := by
  unfold syncDisk
  rw [@if_pos _ (Classical.propDecidable _) h, if_pos h0]
theorem syncDisk_go {d : Disk} (h : SyncGood d) (h0 : d.fuse ≠ 0) : syncDisk d = ⟨flushSecs d (idxC (key d.cache) d.cache.length), [], fuseAfter d.fuse, d.down⟩ := by
  unfold syncDisk
  rw [@if_pos _ (Classical.propDecidable _) h, if_neg h0]
theorem flush_small {d : Disk} (h : Fits d) {idx : Int → Option Nat} (hi : IdxOk d idx) : ∀ b, b ∈ flushSecs d idx → b.length ≤ 1048576 := by
  intro b hb
  unfold flushSecs at hb
  rw [List.mem_map] at hb
  obtain ⟨i, hi1, rfl⟩ := hb
  rw [List.mem_range] at hi1
  unfold secAt
  rcases he : idx (i : Int) with _ | j
  · show (d.secs.getD i []).length ≤ _
    rw [List.getD_eq_getElem?_getD, List.getElem?_eq_getElem hi1]
    exact h.2.1 _ (List.getElem_mem hi1)
  · obtain ⟨y, hy, _⟩ := hi i j he
    show (d.cache.getD j ⟨0, []⟩).b.length ≤ _
    rw [List.getD_eq_getElem?_getD, hy]
    exact h.2.2.2 y (List.mem_of_getElem? hy)
theorem fits_syncDisk {d : Disk} (h : Fits d) : Fits (syncDisk d) := by
  by_cases hg : SyncGood d
  · by_cases h0 : d.fuse = 0
    · rw [syncDisk_zero hg h0]; exact h
    · rw [syncDisk_go hg h0]
      exact ⟨by rw [show (Disk.mk (flushSecs d (idxC (key d.cache) d.cache.length)) [] (fuseAfter d.fuse) d.down).secs = flushSecs d (idxC (key d.cache) d.cache.length) from rfl, flushSecs_length]; exact h.1, flush_small h (idx_ok d _ (Nat.le_refl _)), Nat.zero_le _, fun x hx => by cases hx⟩
  · rw [syncDisk_no hg]; exact h

end Go.Proofs.Ytoaaogacaibedaa
