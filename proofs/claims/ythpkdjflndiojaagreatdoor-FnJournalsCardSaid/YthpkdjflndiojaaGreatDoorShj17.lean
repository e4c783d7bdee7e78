/- What the theorem needs, out of many texts. -/
import Derived.Test.YthpkdjflndiojaaGreatDoorShj15
set_option maxHeartbeats 20000000
namespace Go.Proofs.YthpkdjflndiojaaGreatDoor
open Go.RowKit Go.Maps
set_option maxRecDepth 2000000
set_option linter.unusedVariables false
def Hn9 (sc cc : List Value) (idx : Int→Option Nat) (i : Nat) : Value:=match idx (i : Int) with | some j => cc.getD (2 * j + 1) undef | none => sc.getD i undef
def Pe9 (n : Nat) (sc cc : List Value) (idx : Int→Option Nat) : List Value:=(List.range n).map (Hn9 sc cc idx)
theorem Ez9 (n : Nat) (sc cc : List Value) (idx : Int→Option Nat) : (Pe9 n sc cc idx).length = n:=by simp [Pe9]
theorem Is9 {n i : Nat} (sc cc : List Value) (idx : Int→Option Nat) (h : i < n) : (Pe9 n sc cc idx)[i]? = some (Hn9 sc cc idx i):=by
 unfold Pe9;rw [List.getElem?_map,List.getElem?_range h];rfl
theorem Ay8 (sc cc : List Value) : Pe9 sc.length sc cc (fun _ => none) = sc:=by
 refine List.ext_getElem? fun i => ?_
 by_cases h : i < sc.length
 ·rw [Is9 _ _ _ h,List.getElem?_eq_getElem h]
  show some (sc.getD i undef) = _
  rw [List.getD_eq_getElem?_getD,List.getElem?_eq_getElem h];rfl
 ·rw [List.getElem?_eq_none (by rw [Ez9];omega),List.getElem?_eq_none (by omega)]
theorem Ax8 {n n0 k : Nat} {sc cc : List Value} {idx idx' : Int→Option Nat} (h : n0 < n) (hi : ∀ i,idx' i = if (n0 : Int) = i then some k else idx i) : Pe9 n sc cc idx' = (Pe9 n sc cc idx).set n0 (cc.getD (2 * k + 1) undef):=by
 refine List.ext_getElem? fun i => ?_
 rw [List.getElem?_set];by_cases hin : i < n
 ·rw [Is9 _ _ _ hin,Is9 _ _ _ hin,Ez9]
  have e : Hn9 sc cc idx' i = if n0 = i then cc.getD (2 * k + 1) undef else Hn9 sc cc idx i := by
     unfold Hn9;rw [hi i];by_cases he : n0 = i
     ·rw [if_pos he,if_pos (by omega)]
     ·rw [if_neg he,if_neg (by omega)]
  rw [e];by_cases he : n0 = i
  ·rw [if_pos he,if_pos he,if_pos (by omega)]
  ·rw [if_neg he,if_neg he]
 ·rw [List.getElem?_eq_none (by rw [Ez9];omega),List.getElem?_eq_none (by rw [Ez9];omega)]
  rw [if_neg (by omega)]
def In9 (d : Disk) (idx : Int→Option Nat) (i : Nat) : List UInt8:=match idx (i : Int) with | some j => (d.cache.getD j ⟨0,[]⟩).b | none => d.secs.getD i []
def J8 (d : Disk) (idx : Int→Option Nat) : List (List UInt8):=(List.range d.secs.length).map (In9 d idx)
theorem J7 (d : Disk) (idx : Int→Option Nat) : (J8 d idx).length = d.secs.length:=by simp [J8]
def Me9 (d : Disk) (idx : Int→Option Nat) : Prop:=∀ i j,idx i = some j→∃ x,d.cache[j]? = some x∧x.n = i
theorem Po9 (d : Disk) (k : Nat) (hk : k ≤ d.cache.length) : Me9 d (Am9 (key d.cache) k):=by
 intro i j h;obtain ⟨h1,h2⟩:=Lu9 h;obtain ⟨x,hx⟩:=Rep.getElem?_of_lt (xs:=d.cache) rfl (show j < d.cache.length by omega)
 rw [Kk9 hx] at h2;exact ⟨x,hx,by simpa using h2⟩
structure Mid (w : World) (base : Nat) (v v' : Value) (d : Disk) (sc cc : List Value) (fps fcs : List (List Nat)) (idx : Int→Option Nat) : Prop where
 row : w.ownsRow base 22 1 v d.secs.length (Pe9 d.secs.length sc cc idx)
 crow : w.ownsRow base 84 2 v' d.cache.length cc
 secs : ∀ i x f,d.secs[i]? = some x→fps[i]? = some f→byR.own w base (Rep.seg 1 i sc) x f
 cache : ∀ i x f,d.cache[i]? = some x→fcs[i]? = some f→wrR.own w base (Rep.seg 2 i cc) x f
 slen : fps.length = d.secs.length
 clen : fcs.length = d.cache.length
 sclen : sc.length = d.secs.length
 nodup : ((v.ownBlock.toList ++ fps.flatten) ++ (v'.ownBlock.toList ++ fcs.flatten)).Nodup
theorem Mid.start {w : World} {base : Nat} {v v' : Value} {d : Disk} {f f' : List Nat} (h : Rep.OwnRows byR 22 w base v d.secs f) (h' : Rep.OwnRows wrR 84 w base v' d.cache f') (hn : (f ++ f').Nodup) :
 ∃ sc cc fps fcs,f = v.ownBlock.toList ++ fps.flatten∧f' = v'.ownBlock.toList ++ fcs.flatten∧Mid w base v v' d sc cc fps fcs (fun _ => none):=by
 obtain ⟨sc,fps,ho,hl,he,hf,hn1⟩:=h;obtain ⟨cc,fcs,ho',hl',he',hf',hn1'⟩:=h';have hsl : sc.length = d.secs.length:=by have:=ho.1;replace this : sc.length = d.secs.length * 1:=this;omega
 refine ⟨sc,cc,fps,fcs,hf,hf',?_,ho',he,he',hl,hl',hsl,by rw [← hf,← hf'];exact hn⟩
 have:=Ay8 sc cc;rw [hsl] at this;rw [this];exact ho
theorem Mid.kept {w w' : World} {base : Nat} {v v' : Value} {d : Disk} {sc cc : List Value} {fps fcs : List (List Nat)} {idx : Int→Option Nat} (h : Mid w base v v' d sc cc fps fcs idx) (hb : ∀ a,a ∈ (v.ownBlock.toList ++ fps.flatten) ++ (v'.ownBlock.toList ++ fcs.flatten)→w'.heap[a]? = w.heap[a]?) : Mid w' base v v' d sc cc fps fcs idx:=
 ⟨Rep.ownsRow_block h.row fun a ha => hb a (by simp [List.mem_append] at ha ⊢;simp [ha]),Rep.ownsRow_block h.crow fun a ha => hb a (by simp [List.mem_append] at ha ⊢;simp [ha]),
  fun i x f hx hf => byR.kept (h.secs i x f hx hf) fun a ha => hb a (by rw [List.mem_append];exact .inl (List.mem_append_right _ (Rep.mem_flatten_of hf ha))),
  fun i x f hx hf => wrR.kept (h.cache i x f hx hf) fun a ha => hb a (by rw [List.mem_append];exact .inr (List.mem_append_right _ (Rep.mem_flatten_of hf ha))),h.slen,h.clen,h.sclen,h.nodup⟩
theorem Mid.weak {w : World} {base : Nat} {v v' : Value} {d : Disk} {sc cc : List Value} {fps fcs : List (List Nat)} {idx idx' : Int→Option Nat} (h : Mid w base v v' d sc cc fps fcs idx) (he : ∀ i,idx i = idx' i) : Mid w base v v' d sc cc fps fcs idx':=by
 have : idx = idx':=funext he;subst this;exact h
theorem Mid.store {w : World} {base g c n0 k : Nat} {v' : Value} {d : Disk} {sc cc : List Value} {fps fcs : List (List Nat)} {idx idx' : Int→Option Nat} (h : Mid w base (.slice (some ⟨g,0,none⟩) d.secs.length c) v' d sc cc fps fcs idx) (h0 : n0 < d.secs.length)
 (hi : ∀ i,idx' i = if (n0 : Int) = i then some k else idx i) : Mid (w.setCell ⟨g,n0,none⟩ (cc.getD (2 * k + 1) undef)) base (.slice (some ⟨g,0,none⟩) d.secs.length c) v' d sc cc fps fcs idx':=by
 have hn:=h.nodup;rw [List.nodup_append] at hn;obtain ⟨hn1,hn2,hn3⟩:=hn;have hgm : g ∈ (Value.slice (some ⟨g,0,none⟩) d.secs.length c).ownBlock.toList ++ fps.flatten:=by simp [Value.ownBlock]
 have hg1 : ∀ a,a ∈ fps.flatten→a ≠ g:=fun a ha e => (List.nodup_append.1 hn1).2.2 g (by simp [Value.ownBlock]) a ha e.symm
 have hg2 : ∀ a,a ∈ v'.ownBlock.toList ++ fcs.flatten→a ≠ g:=fun a ha e => hn3 g hgm a ha e.symm
 refine ⟨?_,Rep.ownsRow_block h.crow fun a ha => heap_setCell_other _ _ _ _ (hg2 a (List.mem_append_left _ ha)),
  fun i x f hx hf => byR.kept (h.secs i x f hx hf) fun a ha => heap_setCell_other _ _ _ _ (hg1 a (Rep.mem_flatten_of hf ha)),
  fun i x f hx hf => wrR.kept (h.cache i x f hx hf) fun a ha => heap_setCell_other _ _ _ _ (hg2 a (List.mem_append_right _ (Rep.mem_flatten_of hf ha))),h.slen,h.clen,h.sclen,h.nodup⟩
 rw [Ax8 h0 hi];exact (h.row.stored n0 _).1
theorem Rv9 {fps : List (List Nat)} (h : fps.flatten.Nodup) {i j : Nat} (hij : i ≠ j) {a : Nat} (hi : a ∈ fps.getD i []) (hj : a ∈ fps.getD j []) : False:=by
 have hpw:=(List.pairwise_flatten.1 (show List.Pairwise (· ≠ ·) fps.flatten from h)).2
 rw [List.pairwise_iff_getElem] at hpw;have key1 : ∀ i,a ∈ fps.getD i []→∃ h : i < fps.length,a ∈ fps[i]:=by
  intro i hi;rcases Nat.lt_or_ge i fps.length with h' | h'
  ·exact ⟨h',by rw [List.getD_eq_getElem?_getD,List.getElem?_eq_getElem h'] at hi;exact hi⟩
  ·rw [List.getD_eq_getElem?_getD,List.getElem?_eq_none h'] at hi;cases hi
 obtain ⟨h1,h1'⟩:=key1 i hi;obtain ⟨h2,h2'⟩:=key1 j hj;rcases Nat.lt_or_gt_of_ne hij with hlt | hgt
 ·exact hpw i j h1 h2 hlt a h1' a h2' rfl
 ·exact hpw j i h2 h1 hgt a h2' a h1' rfl
theorem Hh9 {fps : List (List Nat)} {i a : Nat} (h : a ∈ fps.getD i []) : a ∈ fps.flatten:=by
 rcases Nat.lt_or_ge i fps.length with h' | h'
 ·rw [List.getD_eq_getElem?_getD,List.getElem?_eq_getElem h'] at h
  exact Rep.mem_flatten_of (List.getElem?_eq_getElem h') h
 ·rw [List.getD_eq_getElem?_getD,List.getElem?_eq_none h'] at h;cases h
theorem Wb9 {fps : List (List Nat)} (h : fps.flatten.Nodup) (i : Nat) : (fps.getD i []).Nodup:=by
 have hpw:=(List.pairwise_flatten.1 (show List.Pairwise (· ≠ ·) fps.flatten from h)).1
 rcases Nat.lt_or_ge i fps.length with h' | h'
 ·rw [List.getD_eq_getElem?_getD,List.getElem?_eq_getElem h']
  exact hpw _ (List.getElem_mem h')
 ·rw [List.getD_eq_getElem?_getD,List.getElem?_eq_none h']
  exact List.nodup_nil
def Qz9 (fps fcs : List (List Nat)) (idx : Int→Option Nat) (i : Nat) : List Nat:=match idx (i : Int) with | some j => fcs.getD j [] | none => fps.getD i []
theorem wr_byte {w : World} {base k : Nat} {cells : List Value} {x : Wr} {f : List Nat} (h : wrR.own w base (Rep.seg 2 k cells) x f) : byR.own w base [cells.getD (2 * k + 1) undef] x.b f:=by
 have hl : (Rep.seg 2 k cells).length = 2:=Rep.len wrR (Rep.reads wrR h);obtain ⟨f1,f2,⟨h1,h1'⟩,h2,hf,hn⟩:=h;subst h1';have h1:=Rep.seg_get (size:=2) (i:=k) (j:=1) (cells:=cells) (by omega)
 have e : (Rep.seg 2 k cells).drop 1 = [cells.getD (2 * k + 1) undef]:=by
  rw [List.getD_eq_getElem?_getD,show 2 * k + 1 = k * 2 + 1 by omega,← h1]
  match hs : Rep.seg 2 k cells,hl with
  | [a,b],_ => rfl
 replace h2 : byR.own w base ((Rep.seg 2 k cells).drop 1) x.b f2:=h2;rw [e] at h2;rw [hf];exact h2
theorem Mid.done {w : World} {base : Nat} {v v' : Value} {d : Disk} {sc cc : List Value} {fps fcs : List (List Nat)} {idx : Int→Option Nat} (h : Mid w base v v' d sc cc fps fcs idx) (hi : Me9 d idx) :
 ∃ fp,Rep.OwnRows byR 22 w base v (J8 d idx) fp∧∀ a,a ∈ fp→a ∈ (v.ownBlock.toList ++ fps.flatten) ++ (v'.ownBlock.toList ++ fcs.flatten):=by
 have hn:=h.nodup;rw [List.nodup_append] at hn;obtain ⟨hn1,hn2,hn3⟩:=hn;have hs:=(List.nodup_append.1 hn1);have hc:=(List.nodup_append.1 hn2);have hmem : ∀ i a,a ∈ Qz9 fps fcs idx i→a ∈ fps.flatten ∨ a ∈ fcs.flatten:=by
  intro i a ha;unfold Qz9 at ha;split at ha
  ·exact .inr (Hh9 ha)
  ·exact .inl (Hh9 ha)
 have hmem2 : ∀ a,a ∈ ((List.range d.secs.length).map (Qz9 fps fcs idx)).flatten→a ∈ fps.flatten ∨ a ∈ fcs.flatten:=by
  intro a ha;rw [List.mem_flatten] at ha;obtain ⟨l,hl,hal⟩:=ha;rw [List.mem_map] at hl;obtain ⟨i,_,rfl⟩:=hl;exact hmem i a hal
 refine ⟨v.ownBlock.toList ++ ((List.range d.secs.length).map (Qz9 fps fcs idx)).flatten,⟨Pe9 d.secs.length sc cc idx,(List.range d.secs.length).map (Qz9 fps fcs idx),by rw [J7];exact h.row,by simp [J8],?_,rfl,?_⟩,?_⟩
 ·intro i x f hx hf
  have hin : i < d.secs.length := by
     have:=(List.getElem?_eq_some_iff.1 hx).1;rwa [J7] at this
  have hx' : In9 d idx i = x := by
     unfold J8 at hx;rw [List.getElem?_map,List.getElem?_range hin] at hx;injection hx
  have hf' : Qz9 fps fcs idx i = f := by
     rw [List.getElem?_map,List.getElem?_range hin] at hf;injection hf
  have hseg : Rep.seg 1 i (Pe9 d.secs.length sc cc idx) = [Hn9 sc cc idx i] := by
     refine Rep.seg_ext (n:=d.secs.length) (by rw [Ez9];omega) hin rfl fun j hj => ?_
     have : j = 0:=by omega
     subst this;rw [show i * 1 + 0 = i by omega,Is9 _ _ _ hin]
     rfl
  show byR.own w base (Rep.seg 1 i (Pe9 d.secs.length sc cc idx)) x f
  rw [hseg,← hx',← hf'];unfold Hn9 In9 Qz9;rcases he : idx (i : Int) with _ | j
  ·have hsx : d.secs[i]? = some (d.secs.getD i []):=by rw [List.getD_eq_getElem?_getD,List.getElem?_eq_getElem hin];rfl
   have hsf : fps[i]? = some (fps.getD i []):=by rw [List.getD_eq_getElem?_getD,List.getElem?_eq_getElem (by rw [h.slen];exact hin)];rfl
   have:=h.secs i _ _ hsx hsf
   have e : Rep.seg 1 i sc = [sc.getD i undef] := by
      refine Rep.seg_ext (n:=d.secs.length) (by rw [h.sclen];omega) hin rfl fun j hj => ?_
      have : j = 0:=by omega
      subst this;rw [show i * 1 + 0 = i by omega,List.getD_eq_getElem?_getD,List.getElem?_eq_getElem (by rw [h.sclen];exact hin)]
      rfl
   rw [e] at this;exact this
  ·obtain ⟨y,hy,hyn⟩:=hi i j he
   have hj : j < d.cache.length:=(List.getElem?_eq_some_iff.1 hy).1;have hsf : fcs[j]? = some (fcs.getD j []):=by rw [List.getD_eq_getElem?_getD,List.getElem?_eq_getElem (by rw [h.clen];exact hj)];rfl
   have:=wr_byte (h.cache j _ _ hy hsf);have e : (d.cache.getD j ⟨0,[]⟩) = y:=by rw [List.getD_eq_getElem?_getD,hy];rfl
   show byR.own w base [cc.getD (2 * j + 1) undef] (d.cache.getD j ⟨0,[]⟩).b (fcs.getD j [])
   rw [e];exact this
 ·rw [List.nodup_append]
  refine ⟨hs.1,?_,?_⟩
  ·refine List.pairwise_flatten.2 ⟨?_,?_⟩
   ·intro l hl
    rw [List.mem_map] at hl;obtain ⟨i,_,rfl⟩:=hl;show (Qz9 fps fcs idx i).Nodup
    unfold Qz9;split
    ·exact Wb9 hc.2.1 _
    ·exact Wb9 hs.2.1 _
   ·rw [List.pairwise_map]
    refine List.Pairwise.imp ?_ List.pairwise_lt_range;intro i i' hlt a ha b hb e;subst e;unfold Qz9 at ha hb;rcases he : idx (i : Int) with _ | j <;> rcases he' : idx (i' : Int) with _ | j' <;> rw [he] at ha <;> rw [he'] at hb
    ·exact Rv9 hs.2.1 (by omega) ha hb
    ·exact hn3 a (List.mem_append_right _ (Hh9 ha)) a (List.mem_append_right _ (Hh9 hb)) rfl
    ·exact hn3 a (List.mem_append_right _ (Hh9 hb)) a (List.mem_append_right _ (Hh9 ha)) rfl
    ·refine Rv9 hc.2.1 (fun e => ?_) ha hb
     subst e;obtain ⟨y,hy,hyn⟩:=hi _ _ he;obtain ⟨y',hy',hyn'⟩:=hi _ _ he';rw [hy] at hy';injection hy' with hy';subst hy';omega
  ·intro a ha b hb e
   subst e;rcases hmem2 a hb with hb | hb
   ·exact hs.2.2 a ha a hb rfl
   ·exact hn3 a (List.mem_append_left _ ha) a (List.mem_append_right _ hb) rfl
 ·intro a ha
  rw [List.mem_append] at ha;rcases ha with ha | ha
  ·exact List.mem_append_left _ (List.mem_append_left _ ha)
  ·rcases hmem2 a ha with hb | hb
   ·exact List.mem_append_left _ (List.mem_append_right _ hb)
   ·exact List.mem_append_right _ (List.mem_append_right _ hb)
theorem Mid.block {w : World} {base c : Nat} {A : Option Addr} {v' : Value} {d : Disk} {sc cc : List Value} {fps fcs : List (List Nat)} {idx : Int→Option Nat} (h : Mid w base (.slice A d.secs.length c) v' d sc cc fps fcs idx) (h1 : 1 ≤ d.secs.length) : ∃ g,A = some ⟨g,0,none⟩∧base ≤ g∧g < w.heap.size:=by
 rcases h.row.2 with ⟨_,h0⟩ | ⟨g,cap,cur,hv,_⟩
 ·omega
 ·injection hv with hv _ _
  subst hv;exact ⟨g,rfl,h.row.lt g rfl⟩
theorem Mid.there {w : World} {base g c n0 : Nat} {v' : Value} {d : Disk} {sc cc : List Value} {fps fcs : List (List Nat)} {idx : Int→Option Nat} (h : Mid w base (.slice (some ⟨g,0,none⟩) d.secs.length c) v' d sc cc fps fcs idx) (h0 : n0 < d.secs.length) : (∃ u,w.cell? ⟨g,n0,none⟩ = some u)∧w.frozen? ⟨g,n0,none⟩ = false:=by
 have hc:=h.row.cellAt n0 (by omega)
 rw [Is9 _ _ _ h0] at hc;exact ⟨⟨_,hc⟩,h.row.frozenAt n0⟩
theorem Mid.elem {w : World} {base c k : Nat} {B : Option Addr} {v : Value} {d : Disk} {sc cc : List Value} {fps fcs : List (List Nat)} {idx : Int→Option Nat} (h : Mid w base v (.slice B d.cache.length c) d sc cc fps fcs idx) (hk : k < d.cache.length) :
 ∃ b off A2 c2 x,B = some ⟨b,off,none⟩∧b < w.heap.size∧d.cache[k]? = some x∧w.cell? ⟨b,off + k * 2,none⟩ = some (.int .i64 x.n)∧w.cell? ⟨b,off + k * 2 + 1,none⟩ = some (.slice A2 x.b.length c2)∧cc.getD (2 * k + 1) undef = .slice A2 x.b.length c2:=by
 have hr : Reads w w.heap.size 2 B d.cache.length cc:=Reads.of_own h.crow;obtain ⟨x,hx⟩:=Rep.getElem?_of_lt (xs:=d.cache) rfl hk;obtain ⟨f,hf⟩:=Rep.getElem?_of_lt (xs:=fcs) rfl (show k < fcs.length by rw [h.clen];exact hk)
 obtain ⟨A2,c2,hseg,hgd,_,_⟩:=Sj9 (Rep.reads wrR (h.cache k x f hx hf)) (by have:=h.crow.1;omega)
 obtain ⟨b,off,rfl,hbl,hcell⟩:=Io9 hr hk (by decide)
 rw [hseg] at hcell;exact ⟨b,off,A2,c2,x,rfl,hbl,hx,hcell 0 _ rfl,hcell 1 _ rfl,hgd⟩
theorem Mid.lts {w : World} {base : Nat} {v v' : Value} {d : Disk} {sc cc : List Value} {fps fcs : List (List Nat)} {idx : Int→Option Nat} (h : Mid w base v v' d sc cc fps fcs idx) : ∀ a,a ∈ (v.ownBlock.toList ++ fps.flatten) ++ (v'.ownBlock.toList ++ fcs.flatten)→base ≤ a∧a < w.heap.size:=by
 intro a ha;have flat : ∀ {l : List (List Nat)},a ∈ l.flatten→∃ (i : Nat) (f : List Nat),l[i]? = some f∧a ∈ f:=by
  intro l hl;rw [List.mem_flatten] at hl;obtain ⟨f,hf,haf⟩:=hl;obtain ⟨i,hi⟩:=List.getElem?_of_mem hf;exact ⟨i,f,hi,haf⟩
 simp only [List.mem_append] at ha;rcases ha with (ha | ha) | (ha | ha)
 ·exact h.row.lt a (by simpa using ha)
 ·obtain ⟨i,f,hf,haf⟩:=flat ha
  obtain ⟨x,hx⟩:=Rep.getElem?_of_lt (xs:=d.secs) rfl (show i < d.secs.length by have:=(List.getElem?_eq_some_iff.1 hf).1;have:=h.slen;omega)
  exact Rep.lt byR (h.secs i x f hx hf) a haf
 ·exact h.crow.lt a (by simpa using ha)
 ·obtain ⟨i,f,hf,haf⟩:=flat ha
  obtain ⟨x,hx⟩:=Rep.getElem?_of_lt (xs:=d.cache) rfl (show i < d.cache.length by have:=(List.getElem?_eq_some_iff.1 hf).1;have:=h.clen;omega)
  exact Rep.lt wrR (h.cache i x f hx hf) a haf
theorem Da8 (w : World) (e : TypeId) {g : Nat} (hg : g = w.heap.size) : Rep.OwnRows wrR e (w.alloc (.cells #[] e)) w.heap.size (.slice (some ⟨g,0,none⟩) 0 0) [] [g]:=by
 subst hg;exact ⟨[],[],Rep.lit_empty w e 2 rfl,rfl,fun i x f hx => (by cases hx),by simp [Value.ownBlock],by simp⟩
theorem Av8 (w : World) (base : Nat) (e : TypeId) : Rep.OwnRows wrR e w base (.slice none 0 0) [] []:=
 ⟨[],[],⟨rfl,.inl ⟨rfl,rfl⟩⟩,rfl,fun i x f hx => (by cases hx),by simp [Value.ownBlock],by simp⟩
def Cw9 (d : Disk) : Prop:=Z9 d∧d.down = false
noncomputable def S9 (d : Disk) : Disk:=
 @ite _ (Cw9 d) (Classical.propDecidable _) (if d.fuse = 0 then ⟨d.secs,d.cache,-1,true⟩ else ⟨J8 d (Am9 (key d.cache) d.cache.length),[],X9 d.fuse,d.down⟩) d
theorem Bp9 {d : Disk} (h : ¬ Cw9 d) : S9 d = d:=by unfold S9;exact @if_neg _ (Classical.propDecidable _) h _ _ _
theorem Ch9 {d : Disk} (h : Cw9 d) (h0 : d.fuse = 0) : S9 d = ⟨d.secs,d.cache,-1,true⟩:=by
 unfold S9;rw [@if_pos _ (Classical.propDecidable _) h,if_pos h0]
theorem Av9 {d : Disk} (h : Cw9 d) (h0 : d.fuse ≠ 0) : S9 d = ⟨J8 d (Am9 (key d.cache) d.cache.length),[],X9 d.fuse,d.down⟩:=by
 unfold S9;rw [@if_pos _ (Classical.propDecidable _) h,if_neg h0]
theorem Wa9 {d : Disk} (h : Ag9 d) {idx : Int→Option Nat} (hi : Me9 d idx) : ∀ b,b ∈ J8 d idx→b.length ≤ 1048576:=by
 intro b hb;unfold J8 at hb;rw [List.mem_map] at hb;obtain ⟨i,hi1,rfl⟩:=hb;rw [List.mem_range] at hi1;unfold In9;rcases he : idx (i : Int) with _ | j
 ·show (d.secs.getD i []).length ≤ _
  rw [List.getD_eq_getElem?_getD,List.getElem?_eq_getElem hi1];exact h.2.1 _ (List.getElem_mem hi1)
 ·obtain ⟨y,hy,_⟩:=hi i j he
  show (d.cache.getD j ⟨0,[]⟩).b.length ≤ _
  rw [List.getD_eq_getElem?_getD,hy];exact h.2.2.2 y (List.mem_of_getElem? hy)
theorem Dm9 {d : Disk} (h : Ag9 d) : Ag9 (S9 d):=by
 by_cases hg : Cw9 d
 ·by_cases h0 : d.fuse = 0
  ·rw [Ch9 hg h0];exact h
  ·rw [Av9 hg h0]
   exact ⟨by rw [show (Disk.mk (J8 d (Am9 (key d.cache) d.cache.length)) [] (X9 d.fuse) d.down).secs = J8 d (Am9 (key d.cache) d.cache.length) from rfl,J7];exact h.1,Wa9 h (Po9 d _ (Nat.le_refl _)),Nat.zero_le _,fun x hx => by cases hx⟩
 ·rw [Bp9 hg];exact h
set_option maxRecDepth 100000 in
theorem Di9 (cs : List Value) (d : Disk) (w : World) (h : diskR.at_ w w.heap.size cs d) (hf : Ag9 d) :
 Calls Tryz.prog 24 #[.agg cs.toArray] w (RetDisk w (S9 d)):=by
 obtain ⟨Ad,cd,Bd,ed,rfl⟩:=G7 h;have Td:=h;clear h;have HBw:=Below.refl w.heap.size w;obtain ⟨y,hy⟩ : ∃ y,Bz9 d = y:=⟨_,rfl⟩;have HOK:=Lib.hid hy;clear hy;have f1:=hf.1;have f3:=hf.2.2.1;go_enter Tryz.func24,Tryz.ntmps24
 go_wp2_with fail;have ho:=Rep.only_alloc w (.cells #[.slice Ad d.secs.length cd,.slice Bd d.cache.length ed,.int .i64 d.fuse,.bool d.down] 27);have hv:=heap_alloc_new w (.cells #[.slice Ad d.secs.length cd,.slice Bd d.cache.length ed,.int .i64 d.fuse,.bool d.down] 27);have hs : (w.alloc (.cells #[.slice Ad d.secs.length cd,.slice Bd d.cache.length ed,.int .i64 d.fuse,.bool d.down] 27)).heap.size = w.heap.size + 1:=by simp
 generalize hgW : w.alloc (.cells #[.slice Ad d.secs.length cd,.slice Bd d.cache.length ed,.int .i64 d.fuse,.bool d.down] 27) = W1 at ho hv hs ⊢;clear hgW;have SW1 : w.heap.size ≤ W1.heap.size:=ho.size;have HBW1:=Rep.Only.below HBw ho (by omega) (fun a ha => by cases ha)
 replace Td:=Rep.at_only Td ho (by omega) (fun a ha => by cases ha)
 clear HBw;have Vd:=Lib.hid hv;clear hv ho;have ZW1 : w.heap.size < W1.heap.size:=by omega
 have EW1:=Lib.hid hs;clear hs;have ho:=Rep.only_alloc W1 (.cells #[.slice none 0 0,.slice none 0 0,.int .i64 0,.bool false] 27);have hv:=G9 W1 (.cells #[.slice none 0 0,.slice none 0 0,.int .i64 0,.bool false] 27) (n:=w.heap.size + 1) (by have:=EW1.out;omega)
 have hs : (W1.alloc (.cells #[.slice none 0 0,.slice none 0 0,.int .i64 0,.bool false] 27)).heap.size = W1.heap.size + 1:=by simp
 generalize hgW : W1.alloc (.cells #[.slice none 0 0,.slice none 0 0,.int .i64 0,.bool false] 27) = W2 at ho hv hs ⊢;clear hgW;have SW2 : W1.heap.size ≤ W2.heap.size:=ho.size;have HBW2:=Rep.Only.below HBW1 ho (by omega) (fun a ha => by cases ha)
 replace Td:=Rep.at_only Td ho (by omega) (fun a ha => by cases ha)
 replace Vd:=Rep.var_only Vd ho (by omega) (fun hb => by cases hb)
 clear HBW1;have Vr:=Lib.hid hv;clear hv ho;have ZW2 : W1.heap.size < W2.heap.size:=by omega
 have YW2 : w.heap.size + 1 < W2.heap.size:=by have:=EW1.out;omega
 have EW2:=Lib.hid hs;clear hs;refine (Kh9 [.slice Ad d.secs.length cd,.slice Bd d.cache.length ed,.int .i64 d.fuse,.bool d.down] d W2 (Rep.more diskR Td (by omega)) hf).mono ?_
 rintro e W3 ⟨cs,fp4,rfl,Oo,hb⟩;obtain ⟨A5,c6,B7,d8,rfl⟩:=Q9 Oo;have ho:=Rep.only_of_below hb;have L9:=Lib.hid (Rep.lt diskR Oo);clear hb;have SW3 : W2.heap.size ≤ W3.heap.size:=ho.size;have HBW3:=Rep.Only.below HBW2 ho (by omega) (fun a ha => by cases ha)
 replace Td:=Rep.at_only Td ho (by omega) (fun a ha => by cases ha)
 replace Vd:=Rep.var_only Vd ho (by omega) (fun hb => by cases hb)
 replace Vr:=Rep.var_only Vr ho (by omega) (fun hb => by cases hb)
 clear HBW2;clear ho;have qd_0 : W3.cell? ⟨w.heap.size,0,none⟩ = some (.slice Ad d.secs.length cd):=E9 Vd.out 0;have qd_1 : W3.cell? ⟨w.heap.size,1,none⟩ = some (.slice Bd d.cache.length ed):=E9 Vd.out 1;have qd_2 : W3.cell? ⟨w.heap.size,2,none⟩ = some (.int .i64 d.fuse):=E9 Vd.out 2;have qd_3 : W3.cell? ⟨w.heap.size,3,none⟩ = some (.bool d.down):=E9 Vd.out 3;have ld : w.heap.size < W3.heap.size:=by omega
 go_wp2_with fail;clear qd_0 qd_1 qd_2 qd_3 ld;have ho:=Rep.only_alloc W3 (.cells #[.slice A5 d.secs.length c6,.slice B7 d.cache.length d8,.int .i64 d.fuse,.bool d.down] 27);have hv:=heap_alloc_new W3 (.cells #[.slice A5 d.secs.length c6,.slice B7 d.cache.length d8,.int .i64 d.fuse,.bool d.down] 27);have hs : (W3.alloc (.cells #[.slice A5 d.secs.length c6,.slice B7 d.cache.length d8,.int .i64 d.fuse,.bool d.down] 27)).heap.size = W3.heap.size + 1:=by simp
 generalize hgW : W3.alloc (.cells #[.slice A5 d.secs.length c6,.slice B7 d.cache.length d8,.int .i64 d.fuse,.bool d.down] 27) = W10 at ho hv hs ⊢;clear hgW;have SW10 : W3.heap.size ≤ W10.heap.size:=ho.size;have HBW10:=Rep.Only.below HBW3 ho (by omega) (fun a ha => by cases ha)
 replace Td:=Rep.at_only Td ho (by omega) (fun a ha => by cases ha)
 replace Oo:=Rep.own_only Oo ho (fun a ha hb => by cases hb)
 replace Vd:=Rep.var_only Vd ho (by omega) (fun hb => by cases hb)
 replace Vr:=Rep.var_only Vr ho (by omega) (fun hb => by cases hb)
 clear HBW3;have Vo:=Lib.hid hv;clear hv ho;have ZW10 : W3.heap.size < W10.heap.size:=by omega
 have EW10:=Lib.hid hs;clear hs;refine (Gm9 [.slice Ad d.secs.length cd,.slice Bd d.cache.length ed,.int .i64 d.fuse,.bool d.down] d W10 (Rep.more diskR Td (by omega)) hf).mono ?_
 rintro e W11 ⟨rfl,hb⟩;rw [HOK.out];have ho:=Rep.only_of_below hb;clear hb;have SW11 : W10.heap.size ≤ W11.heap.size:=ho.size;have HBW11:=Rep.Only.below HBW10 ho (by omega) (fun a ha => by cases ha)
 replace Td:=Rep.at_only Td ho (by omega) (fun a ha => by cases ha)
 replace Oo:=Rep.own_only Oo ho (fun a ha hb => by cases hb)
 replace Vd:=Rep.var_only Vd ho (by omega) (fun hb => by cases hb)
 replace Vr:=Rep.var_only Vr ho (by omega) (fun hb => by cases hb)
 replace Vo:=Rep.var_only Vo ho (by omega) (fun hb => by cases hb)
 clear HBW10;clear ho;cases y with
 | false =>
   have HR:=Lib.hid (Bp9 (fun hh => Er9 HOK.out hh.1))
   have qo_0 : W11.cell? ⟨W3.heap.size,0,none⟩ = some (.slice A5 d.secs.length c6):=E9 Vo.out 0;have qo_1 : W11.cell? ⟨W3.heap.size,1,none⟩ = some (.slice B7 d.cache.length d8):=E9 Vo.out 1;have qo_2 : W11.cell? ⟨W3.heap.size,2,none⟩ = some (.int .i64 d.fuse):=E9 Vo.out 2;have qo_3 : W11.cell? ⟨W3.heap.size,3,none⟩ = some (.bool d.down):=E9 Vo.out 3;have lo : W3.heap.size < W11.heap.size:=by omega
   have qd_0 : W11.cell? ⟨w.heap.size,0,none⟩ = some (.slice Ad d.secs.length cd):=E9 Vd.out 0;have qd_1 : W11.cell? ⟨w.heap.size,1,none⟩ = some (.slice Bd d.cache.length ed):=E9 Vd.out 1;have qd_2 : W11.cell? ⟨w.heap.size,2,none⟩ = some (.int .i64 d.fuse):=E9 Vd.out 2;have qd_3 : W11.cell? ⟨w.heap.size,3,none⟩ = some (.bool d.down):=E9 Vd.out 3;have ld : w.heap.size < W11.heap.size:=by omega
   have qr_0 : W11.cell? ⟨w.heap.size + 1,0,none⟩ = some (.slice none 0 0):=E9 Vr.out 0;have qr_1 : W11.cell? ⟨w.heap.size + 1,1,none⟩ = some (.slice none 0 0):=E9 Vr.out 1;have qr_2 : W11.cell? ⟨w.heap.size + 1,2,none⟩ = some (.int .i64 0):=E9 Vr.out 2;have qr_3 : W11.cell? ⟨w.heap.size + 1,3,none⟩ = some (.bool false):=E9 Vr.out 3;have lr : w.heap.size + 1 < W11.heap.size:=by omega
   have fr_0:=C9 Vr.out 0;have fr_1:=C9 Vr.out 1;have fr_2:=C9 Vr.out 2;have fr_3:=C9 Vr.out 3;go_wp2_with fail;refine bodyPost_ret (v:=.agg #[.slice A5 d.secs.length c6,.slice B7 d.cache.length d8,.int .i64 d.fuse,.bool d.down]) (by simp [results,Tryz.results24,go_sem,qr_0,qr_1,qr_2,qr_3]) rfl ⟨_,fp4,rfl,?_,?_⟩
   ·rw [HR.out];refine diskR.low (base:=W2.heap.size) ?_ (by omega)
    repeat (refine Rep.setLow ?_ (by first | (simp;done) | (simp;omega)) _)
    exact Oo
   ·repeat (refine Below.setCell ?_ (by first | (simp;done) | (simp;omega)) _)
    exact HBW11
 | true =>
   have hg:=Cv9 HOK.out;rcases hdn : d.down with _ | _
   rotate_left
   ·have HR:=Lib.hid (Bp9 (d:=d) (fun hh => by have:=hh.2;rw [hdn] at this;cases this))
    have qo_0 : W11.cell? ⟨W3.heap.size,0,none⟩ = some (.slice A5 d.secs.length c6):=E9 Vo.out 0;have qo_1 : W11.cell? ⟨W3.heap.size,1,none⟩ = some (.slice B7 d.cache.length d8):=E9 Vo.out 1;have qo_2 : W11.cell? ⟨W3.heap.size,2,none⟩ = some (.int .i64 d.fuse):=E9 Vo.out 2;have qo_3 : W11.cell? ⟨W3.heap.size,3,none⟩ = some (.bool d.down):=E9 Vo.out 3;have lo : W3.heap.size < W11.heap.size:=by omega
    have qd_0 : W11.cell? ⟨w.heap.size,0,none⟩ = some (.slice Ad d.secs.length cd):=E9 Vd.out 0;have qd_1 : W11.cell? ⟨w.heap.size,1,none⟩ = some (.slice Bd d.cache.length ed):=E9 Vd.out 1;have qd_2 : W11.cell? ⟨w.heap.size,2,none⟩ = some (.int .i64 d.fuse):=E9 Vd.out 2;have qd_3 : W11.cell? ⟨w.heap.size,3,none⟩ = some (.bool d.down):=E9 Vd.out 3;have ld : w.heap.size < W11.heap.size:=by omega
    have qr_0 : W11.cell? ⟨w.heap.size + 1,0,none⟩ = some (.slice none 0 0):=E9 Vr.out 0;have qr_1 : W11.cell? ⟨w.heap.size + 1,1,none⟩ = some (.slice none 0 0):=E9 Vr.out 1;have qr_2 : W11.cell? ⟨w.heap.size + 1,2,none⟩ = some (.int .i64 0):=E9 Vr.out 2;have qr_3 : W11.cell? ⟨w.heap.size + 1,3,none⟩ = some (.bool false):=E9 Vr.out 3;have lr : w.heap.size + 1 < W11.heap.size:=by omega
    have fr_0:=C9 Vr.out 0;have fr_1:=C9 Vr.out 1;have fr_2:=C9 Vr.out 2;have fr_3:=C9 Vr.out 3;go_wp2_with fail;refine bodyPost_ret (v:=.agg #[.slice A5 d.secs.length c6,.slice B7 d.cache.length d8,.int .i64 d.fuse,.bool d.down]) (by simp [results,Tryz.results24,go_sem,qr_0,qr_1,qr_2,qr_3,hdn]) rfl ⟨_,fp4,rfl,?_,?_⟩
    ·rw [HR.out];refine diskR.low (base:=W2.heap.size) ?_ (by omega)
     repeat (refine Rep.setLow ?_ (by first | (simp;done) | (simp;omega)) _)
     exact Oo
    ·repeat (refine Below.setCell ?_ (by first | (simp;done) | (simp;omega)) _)
     exact HBW11
   have HG : Hid (Cw9 d):=Lib.hid ⟨hg,hdn⟩;have hfu1 : -1 ≤ d.fuse:=hg.2.2.2.1;have hfu2 : d.fuse ≤ 1000:=hg.2.2.2.2;have h30 : d.cache.length ≤ 30:=hg.1.2.2;obtain ⟨u1,u2,ff,fc,hcs,ho1,ho2,hfp,hnd⟩:=Hi9 Oo;have e1 : u1 = .slice A5 d.secs.length c6:=by injection hcs with h1 _;exact h1.symm
   have e2 : u2 = .slice B7 d.cache.length d8:=by injection hcs with _ h2;injection h2 with h2 _;exact h2.symm
   subst e1 e2;clear hcs;have HN:=Lib.hid hnd;have HFP:=Lib.hid hfp;clear hnd hfp Oo;have LS:=Lib.hid (fun a ha => L9.out a (by rw [HFP.out];exact List.mem_append_left _ ha))
   have LC:=Lib.hid (fun a ha => L9.out a (by rw [HFP.out];exact List.mem_append_right _ ha))
   by_cases hz : d.fuse = 0
   ·have HR:=Lib.hid (Ch9 HG.out hz)
    have Vz : Hid (W11.heap[W3.heap.size]? = some (.cells #[.slice A5 d.secs.length c6,.slice B7 d.cache.length d8,.int .i64 0,.bool d.down] 27 (0,0))):=Lib.hid (by have:=Vo.out;rw [hz] at this;exact this)
    clear hz;have qd_0 : W11.cell? ⟨w.heap.size,0,none⟩ = some (.slice Ad d.secs.length cd):=E9 Vd.out 0;have qd_1 : W11.cell? ⟨w.heap.size,1,none⟩ = some (.slice Bd d.cache.length ed):=E9 Vd.out 1;have qd_2 : W11.cell? ⟨w.heap.size,2,none⟩ = some (.int .i64 d.fuse):=E9 Vd.out 2;have qd_3 : W11.cell? ⟨w.heap.size,3,none⟩ = some (.bool d.down):=E9 Vd.out 3;have ld : w.heap.size < W11.heap.size:=by omega
    go_wp2_with fail;clear qd_0 qd_1 qd_2 qd_3 ld;refine (Nj9 W3.heap.size (.slice A5 d.secs.length c6) (.slice B7 d.cache.length d8) d.down W11 Vz.out).mono ?_;rintro e W12 ⟨rfl,vv,ho⟩;have LF:=Lib.hid (fun a (ha : a ∈ [W3.heap.size]) => (by simp at ha;omega : W3.heap.size ≤ a∧a < W3.heap.size + 1))
    replace ho1:=ho1.kept (fun a ha => ho.block a (by have:=(LS.out a ha).2;omega) (by have:=(LS.out a ha).2;simp;omega))
    replace ho2:=ho2.kept (fun a ha => ho.block a (by have:=(LC.out a ha).2;omega) (by have:=(LC.out a ha).2;simp;omega))
    have SW12 : W11.heap.size ≤ W12.heap.size:=ho.size;have HBW12:=Rep.Only.below HBW11 ho (by omega) (fun a ha => by have:=(LF.out a ha).1;omega)
    replace Td:=Rep.at_only Td ho (by omega) (fun a ha => by have:=(LF.out a ha).1;omega)
    replace Vd:=Rep.var_only Vd ho (by omega) (fun hb => by have:=LF.out _ hb;omega)
    replace Vr:=Rep.var_only Vr ho (by omega) (fun hb => by have:=LF.out _ hb;omega)
    clear HBW11;clear ho LF;clear Vo;have Vo:=vv;clear vv;have qo_0 : W12.cell? ⟨W3.heap.size,0,none⟩ = some (.slice A5 d.secs.length c6):=E9 Vo.out 0;have qo_1 : W12.cell? ⟨W3.heap.size,1,none⟩ = some (.slice B7 d.cache.length d8):=E9 Vo.out 1;have qo_2 : W12.cell? ⟨W3.heap.size,2,none⟩ = some (.int .i64 (-1)):=E9 Vo.out 2;have qo_3 : W12.cell? ⟨W3.heap.size,3,none⟩ = some (.bool true):=E9 Vo.out 3;have lo : W3.heap.size < W12.heap.size:=by omega
    have qr_0 : W12.cell? ⟨w.heap.size + 1,0,none⟩ = some (.slice none 0 0):=E9 Vr.out 0;have qr_1 : W12.cell? ⟨w.heap.size + 1,1,none⟩ = some (.slice none 0 0):=E9 Vr.out 1;have qr_2 : W12.cell? ⟨w.heap.size + 1,2,none⟩ = some (.int .i64 0):=E9 Vr.out 2;have qr_3 : W12.cell? ⟨w.heap.size + 1,3,none⟩ = some (.bool false):=E9 Vr.out 3;have lr : w.heap.size + 1 < W12.heap.size:=by omega
    have fr_0:=C9 Vr.out 0;have fr_1:=C9 Vr.out 1;have fr_2:=C9 Vr.out 2;have fr_3:=C9 Vr.out 3;go_wp2_with fail;refine bodyPost_ret (v:=.agg #[.slice A5 d.secs.length c6,.slice B7 d.cache.length d8,.int .i64 (-1),.bool true]) (by simp [results,Tryz.results24,go_sem,qr_0,qr_1,qr_2,qr_3]) rfl ⟨_,ff ++ fc,rfl,?_,?_⟩
    ·rw [HR.out];refine diskR.low (base:=W2.heap.size) ?_ (by omega)
     repeat (refine Rep.setLow ?_ (by first | (simp;done) | (simp;omega)) _)
     exact Ck9 (d:=⟨d.secs,d.cache,-1,true⟩) ho1 ho2 (by rw [← HFP.out];exact HN.out)
    ·repeat (refine Below.setCell ?_ (by first | (simp;done) | (simp;omega)) _)
     exact HBW12
   have HR:=Lib.hid (Av9 HG.out hz);have HZ:=Lib.hid hz;clear hz;have qd_0 : W11.cell? ⟨w.heap.size,0,none⟩ = some (.slice Ad d.secs.length cd):=E9 Vd.out 0;have qd_1 : W11.cell? ⟨w.heap.size,1,none⟩ = some (.slice Bd d.cache.length ed):=E9 Vd.out 1;have qd_2 : W11.cell? ⟨w.heap.size,2,none⟩ = some (.int .i64 d.fuse):=E9 Vd.out 2;have qd_3 : W11.cell? ⟨w.heap.size,3,none⟩ = some (.bool d.down):=E9 Vd.out 3;have ld : w.heap.size < W11.heap.size:=by omega
   go_wp2_with fail;clear qd_0 qd_1 qd_2 qd_3 ld;refine (Rn9 W3.heap.size (.slice A5 d.secs.length c6) (.slice B7 d.cache.length d8) d.fuse d.down W11 Vo.out HZ.out hfu1 hfu2).mono ?_;rintro e W13 ⟨rfl,vv,ho⟩;have LF:=Lib.hid (fun a (ha : a ∈ [W3.heap.size]) => (by simp at ha;omega : W3.heap.size ≤ a∧a < W3.heap.size + 1))
   replace ho1:=ho1.kept (fun a ha => ho.block a (by have:=(LS.out a ha).2;omega) (by have:=(LS.out a ha).2;simp;omega))
   replace ho2:=ho2.kept (fun a ha => ho.block a (by have:=(LC.out a ha).2;omega) (by have:=(LC.out a ha).2;simp;omega))
   have SW13 : W11.heap.size ≤ W13.heap.size:=ho.size;have HBW13:=Rep.Only.below HBW11 ho (by omega) (fun a ha => by have:=(LF.out a ha).1;omega)
   replace Td:=Rep.at_only Td ho (by omega) (fun a ha => by have:=(LF.out a ha).1;omega)
   replace Vd:=Rep.var_only Vd ho (by omega) (fun hb => by have:=LF.out _ hb;omega)
   replace Vr:=Rep.var_only Vr ho (by omega) (fun hb => by have:=LF.out _ hb;omega)
   clear HBW11;clear ho LF;clear Vo;have Vo:=vv;clear vv;obtain ⟨sc,ccs,fps,fcs,hff,hfc,hM⟩:=Mid.start ho1 ho2 (by rw [← HFP.out];exact HN.out)
   have LM:=Lib.hid (fun a (ha : a ∈ ((Value.slice A5 d.secs.length c6).ownBlock.toList ++ fps.flatten) ++ ((Value.slice B7 d.cache.length d8).ownBlock.toList ++ fcs.flatten)) => (show W2.heap.size ≤ a∧a < W3.heap.size from by rcases List.mem_append.1 ha with h | h;exact LS.out a (by rw [hff];exact h);exact LC.out a (by rw [hfc];exact h)))
   have hl1 : 1 ≤ d.secs.length:=hg.1.1;have f40 : d.secs.length ≤ 40:=hg.1.2.1;have HWO:=Lib.hid (fun x (hx : x ∈ d.cache) => hg.2.2.1 x hx)
   obtain ⟨gs,hgs,hgs1,_⟩:=hM.block hl1;subst hgs;have hgs2 : gs < W3.heap.size:=(LM.out gs (by simp [Value.ownBlock])).2
   clear hg ho1 ho2 hff hfc;replace hM:=hM.weak (idx':=Am9 (key d.cache) 0) (fun _ => rfl)
   have hz0:=Nat.le_refl W13.heap.size;go_wp2_with fail;go_loopw [4] (fun i wr => ∃ k : Nat,k ≤ d.cache.length∧i = .int .i64 k∧Mid wr W2.heap.size (.slice (some ⟨gs,0,none⟩) d.secs.length c6) (.slice B7 d.cache.length d8) d sc ccs fps fcs (Am9 (key d.cache) k)∧Hid (wr.heap[W3.heap.size]? = some (.cells #[.slice (some ⟨gs,0,none⟩) d.secs.length c6,.slice B7 d.cache.length d8,.int .i64 (X9 d.fuse),.bool d.down] 27 (0,0)))∧Hid (wr.heap[w.heap.size + 1]? = some (.cells #[.slice none 0 0,.slice none 0 0,.int .i64 0,.bool false] 27 (0,0)))∧Below w.heap.size w wr∧W13.heap.size ≤ wr.heap.size) (fun i _ => d.cache.length - (intOf i).toNat)
   case atStart => exact ⟨0,by omega,rfl,hM,Vo,Vr,HBW13,hz0⟩
   case round =>
    obtain ⟨k,hk,rfl,hM,vo,vr,hb,hz⟩:=hrel;clear Vo Vr HBW13 hz0;by_cases hlt : k < d.cache.length
    ·obtain ⟨b,off,A2,c2,x,rfl,hbl,hx,e0,e1,hgd⟩:=hM.elem hlt
     obtain ⟨hx0,hx1,_⟩:=HWO.out x (List.mem_of_getElem? hx);obtain ⟨n0,hn0⟩:=Int.eq_ofNat_of_zero_le hx0;rw [hn0] at e0;have hn1 : n0 < d.secs.length:=by omega
     have HX:=Lib.hid hx;have HN0:=Lib.hid hn0;have HGD:=Lib.hid hgd;obtain ⟨⟨u0,hcl⟩,hfr⟩:=hM.there hn1;clear hx hn0 hgd hx0 hx1;have i1 : (0 : Int) ≤ (k : Int):=by omega
     have i2 : (k : Int) < (d.cache.length : Int):=by omega
     have i3 : (0 : Int) ≤ (n0 : Int):=by omega
     have i4 : (n0 : Int) < (d.secs.length : Int):=by omega
     have e00 : wr.cell? ⟨W3.heap.size,0,none⟩ = some (.slice (some ⟨gs,0,none⟩) d.secs.length c6):=E9 vo.out 0;have e01 : wr.cell? ⟨W3.heap.size,1,none⟩ = some (.slice (some ⟨b,off,none⟩) d.cache.length d8):=E9 vo.out 1;go_wp2_with fail;refine M9 15 [0,1,2,3,4,5,6,7,8,9,10,11,12,13,14] [15] (fun w' => w'.cell? ⟨W3.heap.size,0,none⟩ = some (.slice (some ⟨gs,0,none⟩) d.secs.length c6)∧w'.cell? ⟨W3.heap.size,1,none⟩ = some (.slice (some ⟨b,off,none⟩) d.cache.length d8)∧w'.cell? ⟨b,off + k * 2,none⟩ = some (.int .i64 n0)∧w'.cell? ⟨b,off + k * 2 + 1,none⟩ = some (.slice A2 x.b.length c2)) (by kernel_rfl) (by kernel_rfl) ⟨e00,e01,e0,e1⟩ ?_
     iterate 15 (refine LexR.cons rfl ?_ (fun w' hw => ?_) ?_;rotate_left;focus (obtain ⟨e1,e2,e3,e4⟩:=hw;go_simp;(try exact rfl));(try go_frame))
     refine LexR.nil (LexW.cons rfl ?_);try go_frame
     go_wp2_with fail;refine ⟨fun h => absurd rfl h,LexW.nil ?_⟩
     have hM2:=hM.store (k:=k) (idx':=Am9 (key d.cache) (k + 1)) hn1 ?hstep;rotate_left
     ·intro i
      show (if key d.cache k i = true then some k else Am9 (key d.cache) k i) = _
      rw [Kk9 HX.out i];rw [HN0.out];by_cases he : (n0 : Int) = i
      ·rw [if_pos he,if_pos (by simpa using he)]
      ·rw [if_neg he,if_neg (by simpa using he)]
     rw [HGD.out] at hM2;replace hM2:=hM2.kept (w':=(wr.setCell ⟨gs,n0,none⟩ (.slice A2 x.b.length c2)).drew) (fun _ _ => rfl)
     have hq1 : (wr.setCell ⟨gs,n0,none⟩ (.slice A2 x.b.length c2)).drew.heap[W3.heap.size]? = wr.heap[W3.heap.size]?:=heap_setCell_other wr ⟨gs,n0,none⟩ (W3.heap.size) (.slice A2 x.b.length c2) (by simp;omega)
     have hq2 : (wr.setCell ⟨gs,n0,none⟩ (.slice A2 x.b.length c2)).drew.heap[w.heap.size + 1]? = wr.heap[w.heap.size + 1]?:=heap_setCell_other wr ⟨gs,n0,none⟩ (w.heap.size + 1) (.slice A2 x.b.length c2) (by simp;omega)
     have VO2:=Lib.hid (hq1.trans vo.out);have VR2:=Lib.hid (hq2.trans vr.out);have HB2 : Below w.heap.size w (wr.setCell ⟨gs,n0,none⟩ (.slice A2 x.b.length c2)).drew:=belowD (hb.setCell (p:=⟨gs,n0,none⟩) (by simp;omega) (.slice A2 x.b.length c2)) 1
     have hz2 : W13.heap.size ≤ (wr.setCell ⟨gs,n0,none⟩ (.slice A2 x.b.length c2)).drew.heap.size:=by simpa using hz
     generalize hgw : (wr.setCell ⟨gs,n0,none⟩ (.slice A2 x.b.length c2)).drew = w2 at hM2 VO2 VR2 HB2 hz2 ⊢;clear hgw hq1 hq2 hM vo vr hb hz e0 e1 e00 e01 hcl hfr;go_wp2_with fail;go_roundw
     case rel => exact ⟨k + 1,by omega,by go_num,hM2,VO2,VR2,HB2,hz2⟩
     case measure => simp [intOf];omega
    ·have he : k = d.cache.length:=by omega
     subst he;obtain ⟨fp9,hfl,hmem⟩:=hM.done (Po9 d _ (Nat.le_refl _));have HM9:=Lib.hid (fun a ha => LM.out a (hmem a ha))
     clear hM hmem;have HBr:=hb;have e00 : wr.cell? ⟨W3.heap.size,0,none⟩ = some (.slice (some ⟨gs,0,none⟩) d.secs.length c6):=E9 vo.out 0;have e01 : wr.cell? ⟨W3.heap.size,1,none⟩ = some (.slice B7 d.cache.length d8):=E9 vo.out 1;have e02 : wr.cell? ⟨W3.heap.size,2,none⟩ = some (.int .i64 (X9 d.fuse)):=E9 vo.out 2;have e03 : wr.cell? ⟨W3.heap.size,3,none⟩ = some (.bool d.down):=E9 vo.out 3;have f01:=C9 vo.out 1;have lo : W3.heap.size < wr.heap.size:=by omega
     have Vr:=vr;have qr_0 : wr.cell? ⟨w.heap.size + 1,0,none⟩ = some (.slice none 0 0):=E9 Vr.out 0;have qr_1 : wr.cell? ⟨w.heap.size + 1,1,none⟩ = some (.slice none 0 0):=E9 Vr.out 1;have qr_2 : wr.cell? ⟨w.heap.size + 1,2,none⟩ = some (.int .i64 0):=E9 Vr.out 2;have qr_3 : wr.cell? ⟨w.heap.size + 1,3,none⟩ = some (.bool false):=E9 Vr.out 3;have lr : w.heap.size + 1 < wr.heap.size:=by omega
     have fr_0:=C9 Vr.out 0;have fr_1:=C9 Vr.out 1;have fr_2:=C9 Vr.out 2;have fr_3:=C9 Vr.out 3;go_wp2_with fail;refine bodyPost_ret (v:=.agg #[.slice (some ⟨gs,0,none⟩) d.secs.length c6,.slice (some ⟨wr.heap.size,0,none⟩) 0 0,.int .i64 (X9 d.fuse),.bool d.down]) (by simp [results,Tryz.results24,go_sem,lr,qr_0,qr_1,qr_2,qr_3,hdn]) rfl ⟨_,fp9 ++ [wr.heap.size],rfl,?_,?_⟩
     ·rw [HR.out];refine diskR.low (base:=W2.heap.size) ?_ (by omega)
      refine Ck9 (d:=⟨J8 d (Am9 (key d.cache) d.cache.length),[],X9 d.fuse,d.down⟩) (hfl.kept fun a ha => ?_) ((Da8 _ _ (by simp)).low (by simp;omega)) (Rep.nodup_append_of (Rep.nodup secsR (w:=wr) (base:=W2.heap.size) (cs:=[.slice (some ⟨gs,0,none⟩) d.secs.length c6]) ⟨_,rfl,hfl⟩) (by simp) (fun a ha hc => by have:=(HM9.out a ha).2;simp at hc;omega))
      have h9:=HM9.out a ha;rw [Below.heap_alloc _ _ _ (by simp;omega)]
      repeat rw [heap_setCell_other _ _ _ _ (by simp;omega)]
     ·refine Below.alloc ?_ (by simp;have:=hb.size;omega) _
      repeat (refine Below.setCell ?_ (by first | (simp;done) | (simp;omega)) _)
      exact hb
end Go.Proofs.YthpkdjflndiojaaGreatDoor
namespace Go.Proofs.YthpkdjflndiojaaGreatDoor
open Go.RowKit Go.Maps Go.ChangeMaps Go.MapKept Go.WideShapes
set_option maxRecDepth 2000000
set_option linter.unusedVariables false
theorem Al8 {w : World} {mb k : Nat} {cells : List Value} {idx : Int→Option Nat} (h : MapIs w mb k cells idx) :
 ∃ w',(∀ ty,(Builtin.clear_ #[109] ty #[.map (some mb)]).run Tryz.prog w = .ok (.tuple #[]) w')∧MapIs w' mb 0 cells (fun _ => none)∧w.mapTurned w' mb:=by
 obtain ⟨D,⟨es,clock,hb,hF,hs,hD⟩,hI,hi⟩:=h;refine ⟨setBlock w mb (.map #[] clock),fun ty => ?_,⟨.map [],⟨#[],clock,heap_setBlock_same hb _,⟨by simp,stamped_empty clock,by simp⟩,Nat.le_refl _,rfl⟩,isMap_empty,fun i _ => ⟨rfl,fun j hj => by cases hj⟩⟩,⟨es,clock,#[],clock,hb,rfl⟩⟩
 simp [Builtin.clear_,run_underlying Tryz.underlying109,MapKept.run_getObj_map hb,MapKept.run_setObj_map _ hb,Result.andThen,setBlock]
theorem mapNext (w : World) {ops : Array Oper} {rest : List Oper} {o : Oper} {a : Act} {Q : Exit→Act→World→Prop} (hgd : o.guard = none) (it : Operand) (hop : o.op = Op.next it false) (mb r n : Nat) (D : DataW Value) (left : Lit→Bool) (cnt : Nat)
 (hit : a.eval it = .pointer (some ⟨r,0,none⟩)) (h : w.ranges Tryz.prog 3 Hg9 mb r n D left cnt)
 (hDone : cnt = 0→(∀ kl,left kl = false)→wpList Tryz.prog ops Q rest (a.put o.dst (.tuple #[.bool false])) w)
 (hMore : ∀ (x : Int) (c : Value) (w' : World) (cnt' : Nat),(Lit.int .i64 x).wf = true→left (.int .i64 x) = true→(∀ zd,D.atKey (.int .i64 x) zd = .held c)→w'.ranges Tryz.prog 3 Hg9 mb r n D (fun z => left z && !z.sameKey (.int .i64 x)) cnt'→cnt' < cnt →
  w.grownBy w' (some r)→w'.heap.size = w.heap.size→(Instr.entry (.pointer (some ⟨r,0,none⟩))).run Tryz.prog w' = .ok (.tuple #[.int .i64 x,c]) w'→wpList Tryz.prog ops Q rest (a.put o.dst (.tuple #[.bool true,.int .i64 x,c])) w') :
 wpList Tryz.prog ops Q (o :: rest) a w:=by
 refine wpList_next_ranges (α:=Int) (β:=Value) w hgd it hop 3 Oe9 Hg9 (Value.int .i64) (fun v => v) (fun key kl hkey => ?_) (fun v y _ => ⟨v,rfl⟩) mb r n D left cnt hit h hDone (fun x c kl y w' cnt' hkey hlk hv hat hrg hlt hgr hsz hen => ?_)
 ·obtain ⟨x,rfl,_⟩:=Maps.keyOf_int_inv Tryz.underlying3 hkey
  exact ⟨x,rfl⟩
 ·obtain ⟨x',ex,rfl,hwx⟩:=Maps.keyOf_int_inv Tryz.underlying3 hkey
  cases ex;replace hv : some (DataW.held c,([] : List MemPlace)) = some y:=hv;injection hv with hv;subst hv;exact hMore x c w' cnt' hwx hlk hat hrg hlt hgr hsz hen
theorem Dc8 (w : World) {ops : Array Oper} {rest : List Oper} {o : Oper} {a : Act} {Q : Exit→Act→World→Prop} (hgd : o.guard = none) (m : Operand) (hop : o.op = Op.range 109 m) (mb n : Nat) (D : DataW Value)
 (hm : a.eval m = .map (some mb)) (hown : w.ownsMap Tryz.prog 3 Hg9 mb n D)
 (hK : ∀ w',w'.ranges Tryz.prog 3 Hg9 mb w.heap.size n D (Maps.has D) (Maps.size D)→w.grownBy w' none→w'.heap.size = w.heap.size + 1→wpList Tryz.prog ops Q rest (a.put o.dst (.pointer (some ⟨w.heap.size,0,none⟩))) w') :
 wpList Tryz.prog ops Q (o :: rest) a w:=
 wpList_range_own w hgd m 109 hop 3 22 Oe9 Tryz.underlying109 Hg9 mb n D hm hown hK
theorem Rep.Only.drop_new {w w' : World} {r : Nat} {fp : List Nat} (h : Rep.Only w w' (r :: fp)) (hr : w.heap.size ≤ r) : Rep.Only w w' fp:=
 ⟨h.os,h.tape,h.output,h.size,fun k hk hn => h.block k hk (by simp only [List.mem_cons,not_or];exact ⟨by omega,hn⟩)⟩
theorem Rep.Only.grown_new {w wr w1 : World} {r : Nat} {fp : List Nat} (h : Rep.Only w wr fp) (hg : wr.grownBy w1 (some r)) (hr : w.heap.size ≤ r) : Rep.Only w w1 fp:=
 ((h.mono (fun a ha => List.mem_cons_of_mem r ha)).trans (Rep.Only.of_grown hg (fun a ha => by injection ha with ha;subst ha;simp))).drop_new hr
def idxL (left : Lit→Bool) (idx : Int→Option Nat) (i : Int) : Option Nat:=if left (.int .i64 i) = true then none else idx i
def Ue9 (d : Disk) : Prop:=∀ x,x ∈ d.cache→0 ≤ x.n∧x.n < (d.secs.length : Int)
theorem Yc9 {d : Disk} {D : DataW Value} {cells : List Value} {idx : Int→Option Nat} (hI : Me9 d idx) (hk : Ue9 d) (hf : d.secs.length ≤ 1048576) (hi : ∀ i,(Lit.int .i64 i).wf = true→has D (.int .i64 i) = (idx i).isSome∧∀ j,idx i = some j→∀ z,D.atKey (.int .i64 i) z = .held (cells.getD (2 * j + 1) undef)) :
 ∀ i,(fun _ : Int => (none : Option Nat)) i = idxL (has D) idx i:=by
 intro i;show none = if has D (.int .i64 i) = true then none else idx i
 split
 ·rfl
 ·rename_i hh
  rcases he : idx i with _ | j
  ·rfl
  ·exfalso
   obtain ⟨x,hx,hxn⟩:=hI i j he;obtain ⟨h0,h1⟩:=hk x (List.mem_of_getElem? hx);have hw : (Lit.int .i64 i).wf = true:=WalkArith.wf_i64 (by omega)
   exact hh (by rw [(hi i hw).1,he];rfl)
theorem Bj8 {left : Lit→Bool} {idx : Int→Option Nat} {n0 j : Nat} (hj : idx (n0 : Int) = some j) : ∀ i,idxL (fun z => left z && !z.sameKey (.int .i64 (n0 : Int))) idx i = if (n0 : Int) = i then some j else idxL left idx i:=by
 intro i;unfold idxL;by_cases he : (n0 : Int) = i
 ·subst he
  have hs : (Lit.int .i64 (n0 : Int)).sameKey (.int .i64 (n0 : Int)) = true:=by simp [Lit.sameKey]
  have e1 : (fun z : Lit => left z && !z.sameKey (.int .i64 (n0 : Int))) (.int .i64 (n0 : Int)) = false:=by show (left _ && !(Lit.int .i64 (n0 : Int)).sameKey (.int .i64 (n0 : Int))) = false;rw [hs];simp
  rw [e1];simp [hj]
 ·have hs : (Lit.int .i64 i).sameKey (.int .i64 (n0 : Int)) = false:=Maps.sameKey_ne (fun e => he (by injection e with _ e;exact e.symm))
  have e1 : (fun z : Lit => left z && !z.sameKey (.int .i64 (n0 : Int))) (.int .i64 i) = left (.int .i64 i):=by show (left _ && !(Lit.int .i64 i).sameKey (.int .i64 (n0 : Int))) = _;rw [hs];simp
  rw [e1,if_neg he]
set_option maxRecDepth 100000 in
theorem Pw9 (g mb m base gs c : Nat) (B : Option Addr) (c' : Nat) (vf vd : Value) (d : Disk) (sc cc : List Value) (fps fcs : List (List Nat)) (idx : Int→Option Nat) (w : World)
 (hv : w.heap[g]? = some (.cells #[.slice (some ⟨gs,0,none⟩) d.secs.length c,.slice B d.cache.length c',vf,vd,.map (some mb)] 111 (0,0)))
 (hm : MapIs w mb m cc idx) (hM : Mid w base (.slice (some ⟨gs,0,none⟩) d.secs.length c) (.slice B d.cache.length c') d sc cc fps fcs (fun _ => none)) (hI : Me9 d idx) (hk : Ue9 d) (hf : d.secs.length ≤ 1048576)
 (hg1 : ∀ a,a ∈ ((Value.slice (some ⟨gs,0,none⟩) d.secs.length c).ownBlock.toList ++ fps.flatten) ++ ((Value.slice B d.cache.length c').ownBlock.toList ++ fcs.flatten)→a ≠ g∧a ≠ mb) (hgm : g ≠ mb) :
 Calls Tryz.prog 102 #[.pointer (some ⟨g,0,none⟩)] w fun e w' => e = .returned (.tuple #[])∧Hid (w'.heap[g]? = some (.cells #[.slice (some ⟨gs,0,none⟩) d.secs.length c,.slice none 0 0,vf,vd,.map (some mb)] 111 (0,0))) ∧
  Mid w' base (.slice (some ⟨gs,0,none⟩) d.secs.length c) (.slice B d.cache.length c') d sc cc fps fcs idx∧Rep.Only w w' [g,mb,gs]:=by
 have c4 : w.cell? ⟨g,4,none⟩ = some (.map (some mb)):=E9 hv 4;have hgl : g < w.heap.size:=World.block_lt_of_cell? w ⟨g,4,none⟩ c4;have hml:=hm.lt;have hgsm:=hg1 gs (by simp [Value.ownBlock])
 have LT:=Lib.hid hM.lts;have HG1:=Lib.hid hg1;have HV:=Lib.hid hv;obtain ⟨D,ho,hD,hi⟩:=hm;have HI:=Lib.hid hi;have hgsl : gs < w.heap.size:=(LT.out gs (by simp [Value.ownBlock])).2
 have hMs:=hM.weak (Yc9 hI hk hf hi);clear hv hi hg1 hM;go_enter Tryz.func102,Tryz.ntmps102
 go_wp2_with (first
  | (at_range;refine Dc8 w rfl _ rfl mb m D rfl ho ?_;intro w0 hrg0 hg0 hs0)
  | go_in)
 have hO0 : Rep.Only w w0 [g,mb,gs]:=Rep.Only.of_grown hg0 (fun a ha => by cases ha)
 have V0:=Lib.hid ((hg0.block g hgl (by simp)).trans HV.out)
 have hM0:=hMs.kept (w':=w0) (fun a ha => hg0.block a (LT.out a ha).2 (by simp))
 have hz0 : w.heap.size < w0.heap.size:=by omega
 clear hg0 hs0 hMs c4;go_frame
 go_loopw [2,3] (fun _ _ wr => ∃ (left : Lit→Bool) (cnt : Nat),wr.ranges Tryz.prog 3 Hg9 mb w.heap.size m D left cnt∧Mid wr base (.slice (some ⟨gs,0,none⟩) d.secs.length c) (.slice B d.cache.length c') d sc cc fps fcs (idxL left idx) ∧
  Hid (wr.heap[g]? = some (.cells #[.slice (some ⟨gs,0,none⟩) d.secs.length c,.slice B d.cache.length c',vf,vd,.map (some mb)] 111 (0,0)))∧Rep.Only w wr [g,mb,gs]∧w.heap.size < wr.heap.size) (fun _ _ wr => wr.rangeLeft mb w.heap.size)
 case atStart => exact ⟨_,_,hrg0,hM0,V0,hO0,hz0⟩
 case round =>
  obtain ⟨left,cnt,hrg,hM,vo,hO,hz⟩:=hrel;clear hrg0 hM0 V0 hO0 hz0;go_wp2_with (first
   | (at_next;refine mapNext _ rfl _ rfl mb w.heap.size m D left cnt rfl hrg ?_ ?_)
   | go_in)
  ·intro hc0 hl0
   have hM9:=hM.weak (idx':=idx) (fun i => by show (if left (.int .i64 i) = true then none else idx i) = idx i;rw [hl0,if_neg (by simp)])
   have e4 : wr.cell? ⟨g,4,none⟩ = some (.map (some mb)):=E9 vo.out 4;have e1 : wr.cell? ⟨g,1,none⟩ = some (.slice B d.cache.length c'):=E9 vo.out 1;have f1:=C9 vo.out 1;have hmr : MapIs wr mb m cc idx:=⟨D,hrg.owns,hD,HI.out⟩;clear hM;obtain ⟨w5,hrun,hm5,ht5⟩:=Al8 hmr;have hg5:=ht5.grown;have V5:=Lib.hid ((hg5.block g (by have:=hO.size;omega) (by simp;omega)).trans vo.out)
   have hM5:=hM9.kept (w':=w5) (fun a ha => hg5.block a (by have:=(LT.out a ha).2;omega) (by have:=(HG1.out a ha).2;simp;omega))
   have hO5 : Rep.Only w w5 [g,mb,gs]:=hO.trans (Rep.Only.of_grown hg5 (fun a ha => by injection ha with ha;simp [ha]))
   have e5 : w5.cell? ⟨g,1,none⟩ = some (.slice B d.cache.length c'):=E9 V5.out 1;have q5 : w5.frozen? ⟨g,1,none⟩ = false:=C9 V5.out 1;clear hg5 ht5 hM9 hO hmr e1 f1;go_wp2_with fail;go_end0;exact ⟨rfl,Lib.hid (N9 V5.out 1 (.slice none 0 0)),hM5.kept (fun a ha => heap_setCell_other _ _ _ _ (by have:=(HG1.out a ha).1;simp;omega)),hO5.trans (Rep.Only.setCell _ (by simp) _)⟩
  ·intro x v w1 cnt1 hwx hlx hat hrg1 hlt hg1 hs1 hen
   rcases hix : idx x with _ | j
   ·exfalso
    obtain ⟨h1,_⟩:=HI.out x hwx;rw [hix] at h1;have q1:=hat (.held (.int .i64 0));have q2:=hat (.held (.int .i64 1));rw [atKey_of_not_has h1] at q1 q2;rw [← q2] at q1;simp at q1
   ·obtain ⟨y,hy,hyn⟩:=hI x j hix
    obtain ⟨h0,h1⟩:=hk y (List.mem_of_getElem? hy);obtain ⟨n0,rfl⟩:=Int.eq_ofNat_of_zero_le (show 0 ≤ x by omega)
    have hn1 : n0 < d.secs.length:=by omega
    have hjl : j < d.cache.length:=(List.getElem?_eq_some_iff.1 hy).1;have hM1:=hM.kept (w':=w1) (fun a ha => hg1.block a (by have:=(LT.out a ha).2;omega) (by have:=(LT.out a ha).2;simp;omega))
    obtain ⟨b,off,A2,c2,x2,_,_,_,_,_,hgd⟩:=hM1.elem hjl
    have hvv : v = .slice A2 x2.b.length c2 := by
        have:=(HI.out _ hwx).2 j hix (.held undef);rw [hat,hgd] at this;injection this
    subst hvv;obtain ⟨⟨u0,hcl⟩,hfr⟩:=hM1.there hn1;have hM2:=hM1.store (k:=j) hn1 (Bj8 (left:=left) hix);rw [hgd] at hM2;have vo1:=Lib.hid ((hg1.block g (by omega) (by simp;omega)).trans vo.out)
    have e0 : w1.cell? ⟨g,0,none⟩ = some (.slice (some ⟨gs,0,none⟩) d.secs.length c):=E9 vo1.out 0;have i1 : (0 : Int) ≤ (n0 : Int):=by omega
    have i2 : (n0 : Int) < (d.secs.length : Int):=by omega
    have hO1:=hO.grown_new hg1 (Nat.le_refl _);clear hM hM1 hgd hy hyn hat vo;go_wp2_with fail;have hg2 : w1.grownBy (w1.setCell ⟨gs,n0,none⟩ (.slice A2 x2.b.length c2)) (some gs):=⟨rfl,rfl,rfl,by simp,fun k _ hk => heap_setCell_other w1 ⟨gs,n0,none⟩ k _ (fun e => hk (by simp [e]))⟩
    have hrg2:=hrg1.kept hg2 (fun e => by have:=Option.some.inj e;omega) (fun e => by have:=Option.some.inj e;omega)
    have V2:=Lib.hid ((heap_setCell_other w1 ⟨gs,n0,none⟩ g (.slice A2 x2.b.length c2) (by simp;omega)).trans vo1.out)
    have hO2 : Rep.Only w (w1.setCell ⟨gs,n0,none⟩ (.slice A2 x2.b.length c2)) [g,mb,gs]:=hO1.trans (Rep.Only.setCell _ (by simp) _)
    go_roundw
    case rel => exact ⟨_,cnt1,hrg2,hM2,V2,hO2,by simp;omega⟩
    case measure => rw [hrg2.left_eq,hrg.left_eq];exact hlt
end Go.Proofs.YthpkdjflndiojaaGreatDoor
namespace Go.Proofs.YthpkdjflndiojaaGreatDoor
open Go.RowKit Go.Maps
set_option maxRecDepth 2000000
set_option linter.unusedVariables false
theorem Pv9 (g : Nat) (vs vc vm : Value) (dn : Bool) (w : World) (hv : w.heap[g]? = some (.cells #[vs,vc,.int .i64 0,.bool dn,vm] 111 (0,0))) :
 Calls Tryz.prog 75 #[.pointer (some ⟨g,0,none⟩)] w fun e w' => e = .returned (.tuple #[])∧Hid (w'.heap[g]? = some (.cells #[vs,vc,.int .i64 (-1),.bool true,vm] 111 (0,0)))∧Rep.Only w w' [g]:=by
 have HV:=Lib.hid hv;clear hv;go_enter Tryz.func75,Tryz.ntmps75
 go_wp2_with fail;refine (Lk9 g vs vc vm dn w HV.out).mono ?_;rintro e w1 ⟨rfl,vv,ho⟩;go_wp2_with fail;go_end0;exact ⟨rfl,vv,ho⟩
theorem Tu9 (g mb m base gs c : Nat) (B : Option Addr) (c' : Nat) (f : Int) (dn : Bool) (d : Disk) (sc cc : List Value) (fps fcs : List (List Nat)) (idx : Int→Option Nat) (w : World)
 (hv : w.heap[g]? = some (.cells #[.slice (some ⟨gs,0,none⟩) d.secs.length c,.slice B d.cache.length c',.int .i64 f,.bool dn,.map (some mb)] 111 (0,0)))
 (hm : MapIs w mb m cc idx) (hM : Mid w base (.slice (some ⟨gs,0,none⟩) d.secs.length c) (.slice B d.cache.length c') d sc cc fps fcs (fun _ => none)) (hI : Me9 d idx) (hk : Ue9 d) (hf : d.secs.length ≤ 1048576)
 (hg1 : ∀ a,a ∈ ((Value.slice (some ⟨gs,0,none⟩) d.secs.length c).ownBlock.toList ++ fps.flatten) ++ ((Value.slice B d.cache.length c').ownBlock.toList ++ fcs.flatten)→a ≠ g∧a ≠ mb) (hgm : g ≠ mb)
 (h0 : f ≠ 0) (h1 : -1 ≤ f) (h2 : f ≤ 1000) :
 Calls Tryz.prog 75 #[.pointer (some ⟨g,0,none⟩)] w fun e w' => e = .returned (.tuple #[])∧Hid (w'.heap[g]? = some (.cells #[.slice (some ⟨gs,0,none⟩) d.secs.length c,.slice none 0 0,.int .i64 (X9 f),.bool dn,.map (some mb)] 111 (0,0))) ∧
  Mid w' base (.slice (some ⟨gs,0,none⟩) d.secs.length c) (.slice B d.cache.length c') d sc cc fps fcs idx∧Rep.Only w w' [g,mb,gs]:=by
 have HV:=Lib.hid hv;have HG1:=Lib.hid hg1;have HI:=Lib.hid hI;have HK:=Lib.hid hk;have hlm:=Lib.hid hM.lts;have hml:=hm.lt;clear hv hg1 hI hk;go_enter Tryz.func75,Tryz.ntmps75
 go_wp2_with fail;refine (Oq9 g (.slice (some ⟨gs,0,none⟩) d.secs.length c) (.slice B d.cache.length c') (.map (some mb)) f dn w HV.out h0 h1 h2).mono ?_;rintro e w1 ⟨rfl,vv,ho⟩;have hM1:=hM.kept (w':=w1) (fun a ha => ho.block a (hlm.out a ha).2 (by have:=(HG1.out a ha).1;simpa using this))
 have hm1:=hm.of_block (w':=w1) (ho.block mb hml (by simp;omega))
 clear hM hm;go_wp2_with fail;refine (Pw9 g mb m base gs c B c' (.int .i64 (X9 f)) (.bool dn) d sc cc fps fcs idx w1 vv.out hm1 hM1 HI.out HK.out hf HG1.out hgm).mono ?_;rintro e w2 ⟨rfl,v2,hM2,ho2⟩;go_wp2_with fail;go_end0;exact ⟨rfl,v2,hM2,(ho.mono (by simp)).trans ho2⟩
end Go.Proofs.YthpkdjflndiojaaGreatDoor
