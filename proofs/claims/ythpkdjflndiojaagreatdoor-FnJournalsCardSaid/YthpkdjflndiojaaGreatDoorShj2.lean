/- What the theorem needs, out of many texts. -/
import Derived.Test.YthpkdjflndiojaaGreatDoorShj1
import Derived.StillTailTactics
import Derived.WalkSmall
import Derived.Deep.DeepMust
import Derived.Lib.QuoteBits
set_option maxHeartbeats 20000000
namespace Go.Proofs.YthpkdjflndiojaaGreatDoor
open Go.RowKit
set_option maxRecDepth 100000
set_option linter.unusedVariables false
structure Rep (α : Type) where
 size : Nat
 at_ : World→Nat→List Value→α→Prop
 own : World→Nat→List Value→α→List Nat→Prop
 mark : Nat→α→α
 cnt : α→Nat
 len : ∀ {w : World} {B : Nat} {cs : List Value} {x : α},at_ w B cs x→cs.length = size
 keep : ∀ {w w' : World} {B : Nat} {cs : List Value} {x : α},at_ w B cs x→(∀ p : Addr,p.block < B→w'.cell? p = w.cell? p)→at_ w' B cs x
 more : ∀ {w : World} {B B' : Nat} {cs : List Value} {x : α},at_ w B cs x→B ≤ B'→at_ w B' cs x
 reads : ∀ {w : World} {base : Nat} {cs : List Value} {x : α} {fp : List Nat},own w base cs x fp→at_ w w.heap.size cs x
 kept : ∀ {w w' : World} {base : Nat} {cs : List Value} {x : α} {fp : List Nat},own w base cs x fp→(∀ g,g ∈ fp→w'.heap[g]? = w.heap[g]?)→own w' base cs x fp
 low : ∀ {w : World} {base base' : Nat} {cs : List Value} {x : α} {fp : List Nat},own w base cs x fp→base' ≤ base→own w base' cs x fp
 lt : ∀ {w : World} {base : Nat} {cs : List Value} {x : α} {fp : List Nat},own w base cs x fp→∀ g,g ∈ fp→base ≤ g∧g < w.heap.size
 nodup : ∀ {w : World} {base : Nat} {cs : List Value} {x : α} {fp : List Nat},own w base cs x fp→fp.Nodup
namespace Rep
variable {α β : Type}
def leaf (f : α→Value) (m : Nat→α→α) : Rep α where
 size:=1
 at_:=fun _ _ cs x => cs = [f x]
 own:=fun _ _ cs x fp => cs = [f x]∧fp = []
 mark:=m
 cnt:=fun _ => 1
 len:=fun h => by rw [h];rfl
 keep:=fun h _ => h
 more:=fun h _ => h
 reads:=fun h => h.1
 kept:=fun h _ => h
 low:=fun h _ => h
 lt:=fun h g hg => by rw [h.2] at hg;cases hg
 nodup:=fun h => by rw [h.2];exact List.nodup_nil
def int : Rep Int:=leaf (fun n => .int .i64 n) (fun k _ => (k : Int))
def bool : Rep Bool:=leaf (fun b => .bool b) (fun k _ => k % 3 == 0)
theorem Vf9 {w : World} {base : Nat} {e : TypeId} {v : Value} {l : List UInt8} (h : Owns w base e v l) : ∃ A c,v = .slice A l.length c∧l.length ≤ c∧c ≤ maxLen∧Reads w w.heap.size 1 A l.length (bys l):=by
 obtain ⟨A,c,hv,hc,hm,hr,_⟩:=h.shape;exact ⟨A,c,hv,hc,hm,hr⟩
theorem ownsRow_block {w w' : World} {base : Nat} {e : TypeId} {size n : Nat} {v : Value} {xs : List Value} (h : w.ownsRow base e size v n xs) (hb : ∀ g,g ∈ v.ownBlock.toList→w'.heap[g]? = w.heap[g]?) : w'.ownsRow base e size v n xs:=by
 refine ⟨h.1,?_⟩;rcases h.2 with h2 | ⟨g,cap,cur,hv,hg,hh,r⟩
 ·exact .inl h2
 ·refine .inr ⟨g,cap,cur,hv,hg,?_,r⟩
  rw [hb g (by rw [hv];simp [Value.ownBlock])]
  exact hh
theorem nodup_toList (o : Option Nat) : o.toList.Nodup:=by cases o <;> simp
def bytes (e : TypeId) : Rep (List UInt8) where
 size:=1
 at_:=fun w B cs l => ∃ A c,cs = [.slice A l.length c]∧(l.length ≤ c∧c ≤ maxLen)∧Reads w B 1 A l.length (bys l)
 own:=fun w base cs l fp => ∃ v,cs = [v]∧Owns w base e v l∧fp = v.ownBlock.toList
 mark:=fun k l => marks k l.length
 cnt:=fun l => l.length
 len:=fun ⟨_,_,h,_⟩ => by rw [h];rfl
 keep:=fun ⟨A,c,h,hc,hr⟩ hk => ⟨A,c,h,hc,hr.keep hk⟩
 more:=fun ⟨A,c,h,hc,hr⟩ hB => ⟨A,c,h,hc,hr.more hB⟩
 reads := fun ⟨v, h, ho, _⟩ => by
    obtain ⟨A,c,rfl,hc,hm,hr⟩:=Vf9 ho;exact ⟨A,c,h,⟨hc,hm⟩,hr⟩
 kept:=fun ⟨v,h,ho,hf⟩ hb => ⟨v,h,ownsRow_block ho (fun g hg => hb g (by rw [hf];exact hg)),hf⟩
 low:=fun ⟨v,h,ho,hf⟩ hb => ⟨v,h,ownsRow_mono ho hb,hf⟩
 lt := fun ⟨v, h, ho, hf⟩ g hg => by
    rw [hf] at hg;exact ho.lt g (by simpa using hg)
 nodup:=fun ⟨v,h,ho,hf⟩ => by rw [hf];exact nodup_toList _
theorem nodup_append_of {f g : List Nat} (hf : f.Nodup) (hg : g.Nodup) (hd : ∀ a,a ∈ f→a ∈ g→False) : (f ++ g).Nodup:=List.nodup_append.2 ⟨hf,hg,fun a ha b hb e => hd a ha (e ▸ hb)⟩
def pair (R : Rep α) (S : Rep β) : Rep (α × β) where
 size:=R.size + S.size
 at_:=fun w B cs x => R.at_ w B (cs.take R.size) x.1∧S.at_ w B (cs.drop R.size) x.2
 own:=fun w base cs x fp => ∃ f g,R.own w base (cs.take R.size) x.1 f∧S.own w base (cs.drop R.size) x.2 g∧fp = f ++ g∧fp.Nodup
 mark:=fun k x => (R.mark k x.1,S.mark (k + R.cnt x.1) x.2)
 cnt:=fun x => R.cnt x.1 + S.cnt x.2
 len := fun {w B cs x} h => by
    have h1:=R.len h.1;have h2:=S.len h.2;rw [List.length_take] at h1;rw [List.length_drop] at h2;omega
 keep:=fun h hk => ⟨R.keep h.1 hk,S.keep h.2 hk⟩
 more:=fun h hk => ⟨R.more h.1 hk,S.more h.2 hk⟩
 reads:=fun ⟨f,g,h1,h2,_⟩ => ⟨R.reads h1,S.reads h2⟩
 kept:=fun ⟨f,g,h1,h2,hf,hn⟩ hb => ⟨f,g,R.kept h1 (fun a ha => hb a (by rw [hf];simp [ha])),S.kept h2 (fun a ha => hb a (by rw [hf];simp [ha])),hf,hn⟩
 low:=fun ⟨f,g,h1,h2,hf⟩ hb => ⟨f,g,R.low h1 hb,S.low h2 hb,hf⟩
 lt := fun ⟨f, g, h1, h2, hf, _⟩ a ha => by
    rw [hf,List.mem_append] at ha;rcases ha with ha | ha
    ·exact R.lt h1 a ha
    ·exact S.lt h2 a ha
 nodup:=fun ⟨_,_,_,_,_,hn⟩ => hn
def iso (R : Rep α) (g : β→α) (f : α→β) : Rep β where
 size:=R.size
 at_:=fun w B cs y => R.at_ w B cs (g y)
 own:=fun w base cs y fp => R.own w base cs (g y) fp
 mark:=fun k y => f (R.mark k (g y))
 cnt:=fun y => R.cnt (g y)
 len:=fun h => R.len h
 keep:=fun h hk => R.keep h hk
 more:=fun h hk => R.more h hk
 reads:=fun h => R.reads h
 kept:=fun h hb => R.kept h hb
 low:=fun h hb => R.low h hb
 lt:=fun h => R.lt h
 nodup:=fun h => R.nodup h
def seg (size i : Nat) (cells : List Value) : List Value:=(cells.drop (i * size)).take size
theorem seg_get {size i j : Nat} {cells : List Value} (hj : j < size) : (seg size i cells)[j]? = cells[i * size + j]?:=by
 unfold seg;rw [List.getElem?_take,if_pos hj,List.getElem?_drop]
theorem seg_length {size i n : Nat} {cells : List Value} (h : cells.length = n * size) (hi : i < n) : (seg size i cells).length = size:=by
 unfold seg;rw [List.length_take,List.length_drop,h];have : (i + 1) * size ≤ n * size:=Nat.mul_le_mul_right _ hi;rw [Nat.add_mul] at this;omega
theorem seg_ext {size i n : Nat} {cells c : List Value} (h : cells.length = n * size) (hi : i < n) (hc : c.length = size) (hj : ∀ j,j < size→cells[i * size + j]? = c[j]?) : seg size i cells = c:=by
 apply List.ext_getElem?;intro j;by_cases hlt : j < size
 ·rw [seg_get hlt,hj j hlt]
 ·rw [List.getElem?_eq_none (by rw [seg_length h hi];omega),List.getElem?_eq_none (by omega)]
theorem Lg9 {size i k : Nat} {cells cells' : List Value} (hk : k ≠ i) (hj : ∀ j,¬ (i * size ≤ j∧j < (i + 1) * size)→cells'[j]? = cells[j]?) : seg size k cells' = seg size k cells:=by
 apply List.ext_getElem?;intro j;by_cases hlt : j < size
 ·rw [seg_get hlt,seg_get hlt]
  refine hj _ ?_;rintro ⟨h1,h2⟩;rcases Nat.lt_or_gt_of_ne hk with h | h
  ·have h3 : (k + 1) * size ≤ i * size:=Nat.mul_le_mul_right size h
   rw [Nat.add_mul,Nat.one_mul] at h3;omega
  ·have h3 : (i + 1) * size ≤ k * size:=Nat.mul_le_mul_right size h
   omega
 ·rw [List.getElem?_eq_none (by unfold seg;rw [List.length_take];omega),List.getElem?_eq_none (by unfold seg;rw [List.length_take];omega)]
theorem Zi9 {size i j n : Nat} {u : Value} {cells : List Value} (h : cells.length = n * size) (hi : i < n) : seg size i (cells.set (i * size + j) u) = if j < size then (seg size i cells).set j u else seg size i cells:=by
 by_cases hj : j < size
 ·rw [if_pos hj]
  refine seg_ext (n:=n) (by simpa using h) hi (by simpa using seg_length h hi) fun q hq => ?_
  rw [List.getElem?_set,List.getElem?_set];by_cases he : j = q
  ·subst he
   rw [if_pos rfl,if_pos rfl,seg_length h hi];have h1 : (i + 1) * size ≤ n * size:=Nat.mul_le_mul_right _ hi;rw [Nat.add_mul,Nat.one_mul] at h1;rw [if_pos (by omega),if_pos hj]
  ·rw [if_neg (by omega),if_neg he,seg_get hq]
 ·rw [if_neg hj]
  refine seg_ext (n:=n) (by simpa using h) hi (seg_length h hi) fun q hq => ?_
  rw [List.getElem?_set,if_neg (by omega),seg_get hq]
theorem Jt9 {size i j k : Nat} {u : Value} {cells : List Value} (hj : j < size) (hk : k ≠ i) : seg size k (cells.set (i * size + j) u) = seg size k cells:=
 Lg9 hk fun q hq => by
  have h2 : (i + 1) * size = i * size + size:=by rw [Nat.add_mul,Nat.one_mul]
  rw [List.getElem?_set,if_neg (by omega)]
def RowsAt (R : Rep α) (w : World) (B : Nat) (A : Option Addr) (n : Nat) (xs : List α) : Prop:=
 xs.length = n∧∃ cells : List Value,Reads w B R.size A n cells∧∀ i x,xs[i]? = some x→R.at_ w B (seg R.size i cells) x
def OwnRows (R : Rep α) (e : TypeId) (w : World) (base : Nat) (v : Value) (xs : List α) (fp : List Nat) : Prop:=
 ∃ (cells : List Value) (fps : List (List Nat)),w.ownsRow base e R.size v xs.length cells∧fps.length = xs.length∧(∀ (i : Nat) (x : α) (f : List Nat),xs[i]? = some x→fps[i]? = some f→R.own w base (seg R.size i cells) x f)∧fp = v.ownBlock.toList ++ fps.flatten∧fp.Nodup
theorem RowsAt.keep {R : Rep α} {w w' : World} {B n : Nat} {A : Option Addr} {xs : List α} (h : RowsAt R w B A n xs) (hk : ∀ p : Addr,p.block < B→w'.cell? p = w.cell? p) : RowsAt R w' B A n xs:=by
 obtain ⟨hl,cells,hr,he⟩:=h;exact ⟨hl,cells,hr.keep hk,fun i x hx => R.keep (he i x hx) hk⟩
theorem RowsAt.more {R : Rep α} {w : World} {B B' n : Nat} {A : Option Addr} {xs : List α} (h : RowsAt R w B A n xs) (hB : B ≤ B') : RowsAt R w B' A n xs:=by
 obtain ⟨hl,cells,hr,he⟩:=h;exact ⟨hl,cells,hr.more hB,fun i x hx => R.more (he i x hx) hB⟩
theorem mem_flatten_of {fps : List (List Nat)} {i g : Nat} {f : List Nat} (h : fps[i]? = some f) (hg : g ∈ f) : g ∈ fps.flatten:=List.mem_flatten.2 ⟨f,List.mem_of_getElem? h,hg⟩
theorem OwnRows.kept {R : Rep α} {e : TypeId} {w w' : World} {base : Nat} {v : Value} {xs : List α} {fp : List Nat} (h : OwnRows R e w base v xs fp) (hb : ∀ g,g ∈ fp→w'.heap[g]? = w.heap[g]?) : OwnRows R e w' base v xs fp:=by
 obtain ⟨cells,fps,ho,hl,he,hf,hn⟩:=h;refine ⟨cells,fps,ownsRow_block ho (fun g hg => hb g (by rw [hf];exact List.mem_append_left _ hg)),hl,fun i x f hx hfi => ?_,hf,hn⟩
 exact R.kept (he i x f hx hfi) fun g hg => hb g (by rw [hf];exact List.mem_append_right _ (mem_flatten_of hfi hg))
theorem OwnRows.reads {R : Rep α} {e : TypeId} {w : World} {base : Nat} {v : Value} {xs : List α} {fp : List Nat} (h : OwnRows R e w base v xs fp) : ∃ A c,v = .slice A xs.length c∧xs.length ≤ c∧c ≤ maxLen∧RowsAt R w w.heap.size A xs.length xs:=by
 obtain ⟨cells,fps,ho,hl,he,hf,hn⟩:=h;have hat : ∀ i x,xs[i]? = some x→R.at_ w w.heap.size (seg R.size i cells) x:=fun i x hx => by
  have hi : i < xs.length:=(List.getElem?_eq_some_iff.1 hx).1;exact R.reads (he i x _ hx (List.getElem?_eq_getElem (by omega)))
 have ho':=ho;rcases ho.2 with ⟨rfl,h0⟩ | ⟨g,cap,cur,rfl,hb,hg,hnc,hcm,_,_⟩
 ·refine ⟨none,0,by rw [h0],by omega,by simp [maxLen],rfl,cells,?_,hat⟩
  have hc0 : cells = []:=List.eq_nil_of_length_eq_zero (by rw [ho.1,h0,Nat.zero_mul])
  subst hc0;rw [h0];exact ⟨by simp,fun h => absurd h (by omega)⟩
 ·exact ⟨_,cap,rfl,hnc,hcm,rfl,cells,Reads.of_own ho',hat⟩
theorem OwnRows.low {R : Rep α} {e : TypeId} {w : World} {base base' : Nat} {v : Value} {xs : List α} {fp : List Nat} (h : OwnRows R e w base v xs fp) (hb : base' ≤ base) : OwnRows R e w base' v xs fp:=by
 obtain ⟨cells,fps,ho,hl,he,hf⟩:=h;exact ⟨cells,fps,ownsRow_mono ho hb,hl,fun i x f hx hfi => R.low (he i x f hx hfi) hb,hf⟩
theorem OwnRows.lt {R : Rep α} {e : TypeId} {w : World} {base : Nat} {v : Value} {xs : List α} {fp : List Nat} (h : OwnRows R e w base v xs fp) : ∀ g,g ∈ fp→base ≤ g∧g < w.heap.size:=by
 obtain ⟨cells,fps,ho,hl,he,hf,hn⟩:=h;intro g hg;rw [hf,List.mem_append] at hg;rcases hg with hg | hg
 ·exact ho.lt g (by simpa using hg)
 ·obtain ⟨f,hfm,hgf⟩:=List.mem_flatten.1 hg
  obtain ⟨i,hi,rfl⟩:=List.mem_iff_getElem.1 hfm;exact R.lt (he i _ _ (List.getElem?_eq_getElem (by omega)) (List.getElem?_eq_getElem hi)) g hgf
def mkL (R : Rep α) : Nat→List α→List α
 | _,[] => []
 | k,x :: xs => R.mark k x :: mkL R (k + R.cnt x) xs
def cntL (R : Rep α) : List α→Nat
 | [] => 0
 | x :: xs => R.cnt x + cntL R xs
theorem take_get {i : Nat} {xs : List α} {x : α} (h : xs[i]? = some x) : xs.take (i + 1) = xs.take i ++ [x]:=by rw [List.take_add_one,h];rfl
def rows (e : TypeId) (R : Rep α) : Rep (List α) where
 size:=1
 at_:=fun w B cs xs => ∃ A c,cs = [.slice A xs.length c]∧(xs.length ≤ c∧c ≤ maxLen)∧RowsAt R w B A xs.length xs
 own:=fun w base cs xs fp => ∃ v,cs = [v]∧OwnRows R e w base v xs fp
 mark:=mkL R
 cnt:=cntL R
 len:=fun ⟨_,_,h,_⟩ => by rw [h];rfl
 keep:=fun ⟨A,c,h,hc,hr⟩ hk => ⟨A,c,h,hc,hr.keep hk⟩
 more:=fun ⟨A,c,h,hc,hr⟩ hB => ⟨A,c,h,hc,hr.more hB⟩
 reads := fun ⟨v, h, ho⟩ => by
    obtain ⟨A,c,rfl,hc,hm,hr⟩:=ho.reads;exact ⟨A,c,h,⟨hc,hm⟩,hr⟩
 kept:=fun ⟨v,h,ho⟩ hb => ⟨v,h,ho.kept hb⟩
 low:=fun ⟨v,h,ho⟩ hb => ⟨v,h,ho.low hb⟩
 lt:=fun ⟨v,h,ho⟩ => ho.lt
 nodup:=fun ⟨v,h,ho⟩ => by obtain ⟨_,_,_,_,_,_,hn⟩:=ho;exact hn
section
variable {R : Rep α} {w w' : World} {B base : Nat} {cs : List Value} {x : α} {fp : List Nat}
theorem at_below (h : R.at_ w B cs x) (hb : Below B w w') : R.at_ w' B cs x:=R.keep h fun _ hp => hb.cell hp
theorem at_alloc (h : R.at_ w B cs x) (hB : B ≤ w.heap.size) (o : Obj) : R.at_ (w.alloc o) B cs x:=R.keep h fun p hp => World.cell?_alloc_lt w o p (by omega)
theorem own_below (h : R.own w base cs x fp) (hb : Below w.heap.size w w') : R.own w' base cs x fp:=R.kept h fun g hg => hb.block g (R.lt h g hg).2
end
end Rep
theorem T7 (w : World) (cs : Array Value) (size n : Nat) (e : TypeId) {g : Nat} (hg : g = w.heap.size) (hs : cs.size = n * size) (hm : n ≤ maxLen) : Reads (w.alloc (.cells cs e)) (w.alloc (.cells cs e)).heap.size size (some ⟨g,0,none⟩) n cs.toList:=by
 subst hg;exact Reads.of_own (World.ownsRow_lit (base:=0) (e:=e) (size:=size) w cs n (Nat.zero_le _) hm hs)
theorem Hr9 {u : Value} (h : u.oneCell' = true) : ∀ x,x ∈ (#[u] : Array Value).toList→x.oneCell' = true:=by simp [h]
theorem Ln9 {u v : Value} (h : u.oneCell' = true) (h' : v.oneCell' = true) : ∀ x,x ∈ (#[u,v] : Array Value).toList→x.oneCell' = true:=by simp [h,h']
namespace Rep
variable {α β : Type}
theorem getElem?_of_lt {xs : List α} {n k : Nat} (h : xs.length = n) (hk : k < n) : ∃ x,xs[k]? = some x:=⟨xs[k],List.getElem?_eq_getElem (by omega)⟩
theorem RowsAt.elem {R : Rep α} {w : World} {B n k : Nat} {A : Option Addr} {xs : List α} (h : RowsAt R w B A n xs) (hk : k < n) (hs : 0 < R.size) :
 ∃ b off c x,A = some ⟨b,off,none⟩∧b < B∧xs[k]? = some x∧R.at_ w B c x∧∀ j u,c[j]? = some u→w.cell? ⟨b,off + (k * R.size + j),none⟩ = some u:=by
 obtain ⟨hl,cells,hr,he⟩:=h;obtain ⟨x,hx⟩:=getElem?_of_lt hl hk;obtain ⟨ad,hA,hb,hc⟩:=hr.2 (by omega)
 have hlen:=hr.1;have hpos : 0 < cells.length:=by rw [hlen];exact Nat.mul_pos (by omega) hs
 have h0:=hc 0 _ (List.getElem?_eq_getElem hpos);obtain ⟨b,off,spot⟩:=ad;have hsp : spot = none:=by simpa [Addr.add] using World.cell?_spot h0
 subst hsp;refine ⟨b,off,seg R.size k cells,x,hA,hb,hx,he k x hx,fun j u hu => ?_⟩
 have hj : j < R.size:=by
  rcases Nat.lt_or_ge j R.size with h' | h'
  ·exact h'
  ·rw [List.getElem?_eq_none (by rw [seg_length hlen hk];omega)] at hu;cases hu
 rw [seg_get hj] at hu;have:=hc _ _ hu;have e : (⟨b,off,none⟩ : Addr).add (k * R.size + j) = ⟨b,off + (k * R.size + j),none⟩:=by
  unfold Addr.add;split <;> simp_all
 rwa [e] at this
theorem Nn9 {fps : List (List Nat)} {k : Nat} {f : List Nat} (hk : k < fps.length) : (fps.set k f).flatten = (fps.take k).flatten ++ (f ++ (fps.drop (k + 1)).flatten):=by
 rw [List.set_eq_take_append_cons_drop,if_pos hk,List.flatten_append,List.flatten_cons]
theorem Gt9 {fps : List (List Nat)} {k : Nat} (hk : k < fps.length) : fps.flatten = (fps.take k).flatten ++ (fps[k] ++ (fps.drop (k + 1)).flatten):=by
 conv => lhs;rw [← List.take_append_drop k fps,List.flatten_append,List.drop_eq_getElem_cons hk,List.flatten_cons]
theorem Au8 {a b c d f : List Nat} (h : (a ++ (b ++ (c ++ d))).Nodup) (hf : f.Nodup) (hd : ∀ g,g ∈ f→g ∉ a∧g ∉ b∧g ∉ d) : (a ++ (b ++ (f ++ d))).Nodup:=by
 simp only [List.nodup_append,List.mem_append] at h ⊢;obtain ⟨ha,⟨hb,⟨hc,hdn,hcd⟩,hbcd⟩,habcd⟩:=h;refine ⟨ha,⟨hb,⟨hf,hdn,fun x hx y hy e => (hd x hx).2.2 (e ▸ hy)⟩,?_⟩,?_⟩
 ·rintro x hx y (hy | hy) e
  ·exact (hd y hy).2.1 (e ▸ hx)
  ·exact hbcd x hx y (.inr hy) e
 ·rintro x hx y (hy | hy | hy) e
  ·exact habcd x hx y (.inl hy) e
  ·exact (hd y hy).1 (e ▸ hx)
  ·exact habcd x hx y (.inr (.inr hy)) e
theorem OwnRows.put {R : Rep α} {e : TypeId} {w w' : World} {base k : Nat} {v : Value} {xs : List α} {fp : List Nat} (h : OwnRows R e w base v xs fp) {x : α} {c : List Value} {f : List Nat} (hk : k < xs.length)
 (hrow : ∀ cells,w.ownsRow base e R.size v xs.length cells→∃ cells',w'.ownsRow base e R.size v xs.length cells'∧seg R.size k cells' = c∧∀ i,i ≠ k→seg R.size i cells' = seg R.size i cells)
 (hx : R.own w' base c x f) (hf : ∀ g,g ∈ f→g ∉ fp) (hb : ∀ g,g ∈ fp→some g ≠ v.ownBlock→w'.heap[g]? = w.heap[g]?) :
 ∃ fp',OwnRows R e w' base v (xs.set k x) fp'∧∀ g,g ∈ fp'→g ∈ fp ∨ g ∈ f:=by
 obtain ⟨cells,fps,ho,hl,he,hfp,hn⟩:=h;obtain ⟨cells',ho',hs,hs'⟩:=hrow cells ho;have hkf : k < fps.length:=by omega
 refine ⟨v.ownBlock.toList ++ (fps.set k f).flatten,⟨cells',fps.set k f,by simpa using ho',by simpa using hl,?_,rfl,?_⟩,?_⟩
 ·intro i y fy hy hfy
  by_cases hik : k = i
  ·subst hik
   rw [List.getElem?_set_self hk] at hy;rw [List.getElem?_set_self hkf] at hfy;injection hy with hy;injection hfy with hfy;subst hy hfy;rw [hs];exact hx
  ·rw [List.getElem?_set_ne hik] at hy hfy
   rw [hs' i (fun e => hik e.symm)]
   refine R.kept (he i y fy hy hfy) fun g hg => hb g ?_ ?_
   ·rw [hfp];exact List.mem_append_right _ (mem_flatten_of hfy hg)
   ·intro hg'
    rw [hfp] at hn;exact (List.nodup_append.1 hn).2.2 g (by rw [← hg'];simp) g (mem_flatten_of hfy hg) rfl
 ·rw [Nn9 hkf,List.nodup_append]
  rw [hfp,Gt9 hkf] at hn;have:=Au8 (a:=[]) (b:=v.ownBlock.toList ++ (fps.take k).flatten) (c:=fps[k]) (d:=(fps.drop (k + 1)).flatten) (f:=f) (by simpa using hn) (R.nodup hx) (by
   intro g hg;have h1:=hf g hg;rw [hfp,Gt9 hkf] at h1;simp only [List.mem_append,not_or] at h1;exact ⟨by simp,by simp only [List.mem_append,not_or];exact ⟨h1.1,h1.2.1⟩,h1.2.2.2⟩)
  have h2 : (v.ownBlock.toList ++ ((fps.take k).flatten ++ (f ++ (fps.drop (k + 1)).flatten))).Nodup:=by simpa using this
  exact List.nodup_append.1 h2
 ·intro g hg
  rw [Nn9 hkf] at hg;simp only [List.mem_append] at hg;rw [hfp,Gt9 hkf];simp only [List.mem_append];rcases hg with hg | hg | hg | hg
  ·exact .inl (.inl hg)
  ·exact .inl (.inr (.inl hg))
  ·exact .inr hg
  ·exact .inl (.inr (.inr (.inr hg)))
theorem OwnRows.renew {R : Rep α} {e : TypeId} {w : World} {base k : Nat} {v : Value} {xs : List α} {fp : List Nat} {x : α} (h : OwnRows R e w base v xs fp) (hx : xs[k]? = some x) :
 ∃ c f, (∀ cells, w.ownsRow base e R.size v xs.length cells → seg R.size k cells = c) ∧ R.own w base c x f ∧ (∀ g, g ∈ f → g ∈ fp ∧ some g ≠ v.ownBlock) ∧
   ∀ (w' : World) (x' : α) (c' : List Value), (∀ cells, w.ownsRow base e R.size v xs.length cells → ∃ cells', w'.ownsRow base e R.size v xs.length cells' ∧ seg R.size k cells' = c' ∧ ∀ i, i ≠ k → seg R.size i cells' = seg R.size i cells) →
     R.own w' base c' x' f→(∀ g,g ∈ fp→some g ≠ v.ownBlock→g ∉ f→w'.heap[g]? = w.heap[g]?)→OwnRows R e w' base v (xs.set k x') fp:=by
 obtain ⟨cells,fps,ho,hl,he,hfp,hn⟩:=h;have hk : k < xs.length:=(List.getElem?_eq_some_iff.1 hx).1;have hkf : k < fps.length:=by omega
 have huniq : ∀ cells2,w.ownsRow base e R.size v xs.length cells2→cells2 = cells:=by
  intro cells2 h2;rcases ho.2 with ⟨rfl,h0⟩ | ⟨g,cap,cur,rfl,_,hg,_,_,_,ht⟩
  ·have a1:=h2.1
   have a2:=ho.1;rw [h0,Nat.zero_mul] at a1 a2;rw [List.eq_nil_of_length_eq_zero a1,List.eq_nil_of_length_eq_zero a2]
  ·rcases h2.2 with ⟨hv,_⟩ | ⟨g2,cap2,cur2,hv,_,hg2,_,_,_,ht2⟩
   ·cases hv
   ·injection hv with hv _ _
    injection hv with hv;injection hv with hv _ _;subst hv;rw [hg] at hg2;injection hg2 with hg2;injection hg2 with hg2 _ _;subst hg2;rw [← ht,← ht2]
 refine ⟨seg R.size k cells,fps[k],fun cells2 h2 => by rw [huniq cells2 h2],he k x _ hx (List.getElem?_eq_getElem hkf),?_,?_⟩
 ·intro g hg
  have hm:=mem_flatten_of (List.getElem?_eq_getElem hkf) hg;refine ⟨by rw [hfp];exact List.mem_append_right _ hm,fun hg' => ?_⟩
  rw [hfp] at hn;exact (List.nodup_append.1 hn).2.2 g (by rw [← hg'];simp) g hm rfl
 ·intro w' x' c' hrow hx' hb
  obtain ⟨cells',ho',hs,hs'⟩:=hrow cells ho;refine ⟨cells',fps,by simpa using ho',by simpa using hl,?_,hfp,hn⟩
  intro i y fy hy hfy;by_cases hik : k = i
  ·subst hik
   rw [List.getElem?_set_self hk] at hy;rw [List.getElem?_eq_getElem hkf] at hfy;injection hy with hy;injection hfy with hfy;subst hy hfy;rw [hs];exact hx'
  ·rw [List.getElem?_set_ne hik] at hy
   rw [hs' i (fun e => hik e.symm)]
   refine R.kept (he i y fy hy hfy) fun g hg => hb g ?_ ?_ ?_
   ·rw [hfp];exact List.mem_append_right _ (mem_flatten_of hfy hg)
   ·intro hg'
    rw [hfp] at hn;exact (List.nodup_append.1 hn).2.2 g (by rw [← hg'];simp) g (mem_flatten_of hfy hg) rfl
   ·intro hgf
    rw [hfp] at hn;have hn2:=(List.nodup_append.1 hn).2.1;have hpw:=(List.pairwise_flatten.1 (show List.Pairwise (· ≠ ·) fps.flatten from hn2)).2
    have hif : i < fps.length:=(List.getElem?_eq_some_iff.1 hfy).1;have hfy' : fps[i] = fy:=(List.getElem?_eq_some_iff.1 hfy).2;rw [List.pairwise_iff_getElem] at hpw;rcases Nat.lt_or_gt_of_ne hik with hlt | hgt
    ·exact hpw k i hkf hif hlt g hgf g (hfy' ▸ hg) rfl
    ·exact hpw i k hif hkf hgt g (hfy' ▸ hg) g hgf rfl
theorem OwnRows.there {R : Rep α} {e : TypeId} {w : World} {base g n c : Nat} {xs : List α} {fp : List Nat} (h : OwnRows R e w base (.slice (some ⟨g,0,none⟩) n c) xs fp) (j : Nat) (hj : j < xs.length * R.size) :
 (∃ u,w.cell? ⟨g,j,none⟩ = some u)∧w.frozen? ⟨g,j,none⟩ = false∧g ∈ fp∧g < w.heap.size:=by
 obtain ⟨cells,fps,ho,hl,he,hfp,hn⟩:=h;have hv : n = xs.length:=by
  rcases ho.2 with ⟨hv,_⟩ | ⟨_,_,_,hv,_⟩
  ·cases hv
  ·injection hv
 subst hv;have hc:=ho.cellAt j hj;have hlen:=ho.1;rw [List.getElem?_eq_getElem (by omega)] at hc
 exact ⟨⟨_,hc⟩,ho.frozenAt j,by rw [hfp];simp [Value.ownBlock],(ho.lt g rfl).2⟩
theorem OwnRows.of_below {R : Rep α} {e : TypeId} {w w' : World} {base : Nat} {v : Value} {xs : List α} {fp : List Nat} (h : OwnRows R e w base v xs fp) (hb : Below w.heap.size w w') : OwnRows R e w' base v xs fp:=h.kept fun g hg => hb.block g (h.lt g hg).2
theorem seg_made (z : Array Value) (n : Nat) : ∀ i,i < n→seg z.size i (madeCells z (n * z.size)).toList = z.toList:=by
 intro i hi;refine seg_ext (n:=n) (by simp [madeCells]) hi (by simp) fun j hj => ?_
 have h1 : (i + 1) * z.size ≤ n * z.size:=Nat.mul_le_mul_right _ hi;rw [Nat.add_mul,Nat.one_mul] at h1;have h2 : (i * z.size + j) % z.size = j:=by rw [Nat.mul_comm,Nat.mul_add_mod,Nat.mod_eq_of_lt hj]
 have h3 : i * z.size + j < n * z.size:=by omega
 simp only [madeCells,Array.toList_map,Array.toList_range,List.getElem?_map,List.getElem?_range h3,Option.map_some,h2];simp [hj]
def setRow (w : World) (g o : Nat) : List Value→World
 | [] => w
 | u :: us => setRow (w.setCell ⟨g,o,none⟩ u) g (o + 1) us
theorem setRow_heap (w : World) (g o k : Nat) (cs : List Value) (hk : k ≠ g) : (setRow w g o cs).heap[k]? = w.heap[k]?:=by
 induction cs generalizing w o with
 | nil => rfl
 | cons u us ih => rw [setRow,ih,heap_setCell_other _ _ _ _ hk]
def setL (l : List Value) (o : Nat) : List Value→List Value
 | [] => l
 | u :: us => setL (l.set o u) (o + 1) us
theorem Un9 (l : List Value) (o : Nat) (cs : List Value) : (setL l o cs).length = l.length:=by
 induction cs generalizing l o with
 | nil => rfl
 | cons u us ih => rw [setL,ih,List.length_set]
theorem Cm8 (l : List Value) (o : Nat) (cs : List Value) (h : o + cs.length ≤ l.length) (j : Nat) : (setL l o cs)[j]? = if o ≤ j∧j < o + cs.length then cs[j - o]? else l[j]?:=by
 induction cs generalizing l o with
 | nil => simp [setL];omega
 | cons u us ih =>
   simp only [List.length_cons] at h;rw [setL,ih _ _ (by rw [List.length_set];omega)]
   simp only [List.length_cons];by_cases h1 : o + 1 ≤ j∧j < o + 1 + us.length
   ·rw [if_pos h1,if_pos ⟨by omega,by omega⟩,show j - o = (j - (o + 1)) + 1 by omega,List.getElem?_cons_succ]
   ·rw [if_neg h1,List.getElem?_set]
    by_cases h2 : o = j
    ·subst h2
     rw [if_pos rfl,if_pos (by omega),if_pos ⟨by omega,by omega⟩]
     simp
    ·rw [if_neg h2,if_neg (by omega)]
theorem Um9 {w : World} {base e size n g c : Nat} {cells : List Value} (o : Nat) (cs : List Value) (h : w.ownsRow base e size (.slice (some ⟨g,0,none⟩) n c) n cells) :
 (setRow w g o cs).ownsRow base e size (.slice (some ⟨g,0,none⟩) n c) n (setL cells o cs):=by
 induction cs generalizing w cells o with
 | nil => exact h
 | cons u us ih => exact ih (o + 1) (h.stored o u).1
theorem setRow_put {w : World} {base e size n k g c : Nat} {cells : List Value} (cs : List Value) (h : w.ownsRow base e size (.slice (some ⟨g,0,none⟩) n c) n cells) (hk : k < n) (hc : cs.length = size) :
 ∃ cells',(setRow w g (k * size) cs).ownsRow base e size (.slice (some ⟨g,0,none⟩) n c) n cells'∧seg size k cells' = cs∧∀ i,i ≠ k→seg size i cells' = seg size i cells:=by
 have hlen:=h.1;have h1 : (k + 1) * size ≤ n * size:=Nat.mul_le_mul_right _ hk;have h2 : (k + 1) * size = k * size + size:=by rw [Nat.add_mul,Nat.one_mul]
 have hget:=Cm8 cells (k * size) cs (by omega)
 refine ⟨_,Um9 (k * size) cs h,?_,fun i hi => ?_⟩
 ·refine seg_ext (n:=n) (by rw [Un9];exact hlen) hk hc fun j hj => ?_
  rw [hget,if_pos ⟨by omega,by omega⟩]
  congr 1
  omega
 ·refine Lg9 hi fun j hj => ?_
  rw [hget,if_neg (by omega)]
theorem OwnRows.store {R : Rep α} {e : TypeId} {w : World} {base g k n c B : Nat} {xs : List α} {fp : List Nat} (h : OwnRows R e w base (.slice (some ⟨g,0,none⟩) n c) xs fp) {x : α} (cs : List Value) {f : List Nat} (hn : xs.length = n) (hk : k < n)
 (hc : cs.length = R.size) (hx : R.own w B cs x f) (hB : base ≤ B) (hf : ∀ g',g' ∈ fp→g' < B) :
 ∃ fp',OwnRows R e (setRow w g (k * R.size) cs) base (.slice (some ⟨g,0,none⟩) n c) (xs.set k x) fp':=by
 subst hn;have hg : g ∈ fp:=by
  obtain ⟨_,_,_,_,_,hfp,_⟩:=h;rw [hfp];simp [Value.ownBlock]
 obtain ⟨fp',h1,_⟩:=h.put (k:=k) (x:=x) (c:=cs) (f:=f) (w':=setRow w g (k * R.size) cs) hk (fun cells ho => setRow_put cs ho hk hc)
  (R.low (R.kept hx fun a ha => setRow_heap _ _ _ _ _ (fun e => by have:=(R.lt hx a ha).1;have:=hf g hg;omega)) hB)
  (fun a ha ha' => by have:=(R.lt hx a ha).1;have:=hf a ha';omega)
  (fun a ha hne => setRow_heap _ _ _ _ _ (fun e => hne (by rw [e];rfl)))
 exact ⟨fp',h1⟩
theorem OwnRows.open_ {R : Rep α} {e : TypeId} {w : World} {base g n cap k : Nat} {xs : List α} {fp : List Nat} {x : α} (h : OwnRows R e w base (.slice (some ⟨g,0,none⟩) n cap) xs fp) (hx : xs[k]? = some x) :
 ∃ c f, R.own w base c x f ∧ (∀ j u, c[j]? = some u → w.cell? ⟨g, k * R.size + j, none⟩ = some u) ∧ (∀ j, w.frozen? ⟨g, j, none⟩ = false) ∧ (∀ a, a ∈ f → a ∈ fp) ∧ g ∈ fp ∧ g ∉ f ∧ base ≤ g ∧ g < w.heap.size ∧
   (∀ (w' : World) (x' : α),w'.heap[g]? = w.heap[g]?→R.own w' base c x' f→(∀ a,a ∈ fp→a ≠ g→a ∉ f→w'.heap[a]? = w.heap[a]?)→OwnRows R e w' base (.slice (some ⟨g,0,none⟩) n cap) (xs.set k x') fp) ∧
   (∀ (x' : α) (j : Nat) (u : Value),j < R.size→R.own (w.setCell ⟨g,k * R.size + j,none⟩ u) base (c.set j u) x' f→OwnRows R e (w.setCell ⟨g,k * R.size + j,none⟩ u) base (.slice (some ⟨g,0,none⟩) n cap) (xs.set k x') fp):=by
 have hk : k < xs.length:=(List.getElem?_eq_some_iff.1 hx).1;obtain ⟨c,f,hc,hxo,hf,hclose⟩:=h.renew hx;obtain ⟨cells,fps,ho,hl,he,hfp,hn⟩:=h;have hv : n = xs.length:=by
  rcases ho.2 with ⟨hv,_⟩ | ⟨_,_,_,hv,_⟩
  ·cases hv
  ·injection hv
 subst hv;have hlen:=ho.1;have hce:=hc cells ho;have hgl:=ho.lt g rfl;refine ⟨c,f,hxo,?_,fun j => ho.frozenAt j,fun a ha => (hf a ha).1,by rw [hfp];simp [Value.ownBlock],fun hg => (hf g hg).2 rfl,hgl.1,hgl.2,?_,?_⟩
 ·intro j u hu
  have hj : j < R.size:=by
   rcases Nat.lt_or_ge j R.size with h' | h'
   ·exact h'
   ·rw [← hce,List.getElem?_eq_none (by rw [seg_length hlen hk];omega)] at hu;cases hu
  rw [← hce,seg_get hj] at hu;have h1 : (k + 1) * R.size ≤ xs.length * R.size:=Nat.mul_le_mul_right _ hk;rw [Nat.add_mul,Nat.one_mul] at h1;rw [ho.cellAt _ (by omega),hu]
 ·intro w' x' hg hx' hb
  refine hclose w' x' c (fun cells2 ho2 => ⟨cells2,ownsRow_block ho2 (fun a ha => by simp [Value.ownBlock] at ha;subst ha;exact hg),hc cells2 ho2,fun _ _ => rfl⟩) hx' fun a ha hne haf => hb a ha (fun e => hne (by rw [e];rfl)) haf
 ·intro x' j u hj hx'
  refine hclose _ x' (c.set j u) (fun cells2 ho2 => ⟨_,(ho2.stored _ u).1,?_,fun i hi => Jt9 hj hi⟩) hx' fun a ha hne _ => heap_setCell_other _ _ _ _ (fun e => hne (by rw [e];rfl))
  rw [Zi9 ho2.1 hk,if_pos hj,hc cells2 ho2]
structure Only (w w' : World) (fp : List Nat) : Prop where
 os : w'.os = w.os
 tape : w'.tape = w.tape
 output : w'.output = w.output
 size : w.heap.size ≤ w'.heap.size
 block : ∀ k,k < w.heap.size→k ∉ fp→w'.heap[k]? = w.heap[k]?
theorem Only.refl (w : World) (fp : List Nat) : Only w w fp:=⟨rfl,rfl,rfl,Nat.le_refl _,fun _ _ _ => rfl⟩
theorem Only.trans {w w1 w2 : World} {fp : List Nat} (h : Only w w1 fp) (h2 : Only w1 w2 fp) : Only w w2 fp:=
 ⟨h2.os.trans h.os,h2.tape.trans h.tape,h2.output.trans h.output,Nat.le_trans h.size h2.size,fun k hk hn => (h2.block k (Nat.lt_of_lt_of_le hk h.size) hn).trans (h.block k hk hn)⟩
theorem Only.of_grown {w w' : World} {fp : List Nat} {row : Option Nat} (h : w.grownBy w' row) (hr : ∀ g,row = some g→g ∈ fp) : Only w w' fp:=
 ⟨h.os,h.tape,h.output,h.size,fun k hk hn => h.block k hk (fun e => hn (hr k e.symm))⟩
theorem Only.mono {w w' : World} {fp fp' : List Nat} (h : Only w w' fp) (hs : ∀ a,a ∈ fp→a ∈ fp') : Only w w' fp':=⟨h.os,h.tape,h.output,h.size,fun k hk hn => h.block k hk (fun e => hn (hs k e))⟩
theorem Only.setCell (w : World) {fp : List Nat} {p : Addr} (hp : p.block ∈ fp) (u : Value) : Only w (w.setCell p u) fp:=
 ⟨rfl,rfl,rfl,by simp,fun k _ hn => heap_setCell_other w p k u (fun e => hn (e ▸ hp))⟩
theorem Only.below {B : Nat} {w0 w w' : World} {fp : List Nat} (hb : Below B w0 w) (h : Only w w' fp) (hB : B ≤ w.heap.size) (hf : ∀ g,g ∈ fp→B ≤ g) : Below B w0 w':=
 ⟨h.os.trans hb.os,h.tape.trans hb.tape,h.output.trans hb.output,Nat.le_trans hb.size h.size,fun k hk => (h.block k (by omega) (fun e => by have:=hf k e;omega)).trans (hb.block k hk)⟩
theorem own_only {R : Rep α} {w w' : World} {base : Nat} {cs : List Value} {x : α} {fp f : List Nat} (h : R.own w base cs x f) (ho : Only w w' fp) (hd : ∀ a,a ∈ f→a ∉ fp) : R.own w' base cs x f:=
 R.kept h fun g hg => ho.block g (R.lt h g hg).2 (hd g hg)
theorem at_only {R : Rep α} {w w' : World} {B : Nat} {cs : List Value} {x : α} {fp : List Nat} (h : R.at_ w B cs x) (ho : Only w w' fp) (hB : B ≤ w.heap.size) (hf : ∀ g,g ∈ fp→B ≤ g) : R.at_ w' B cs x:=
 R.keep h fun p hp => World.cell?_of_block (ho.block p.block (by omega) (fun e => by have:=hf _ e;omega))
theorem setLow {R : Rep α} {w : World} {base : Nat} {cs : List Value} {x : α} {fp : List Nat} (h : R.own w base cs x fp) {p : Addr} (hp : p.block < base) (u : Value) : R.own (w.setCell p u) base cs x fp:=
 R.kept h fun g hg => heap_setCell_other _ _ _ _ (by have:=(R.lt h g hg).1;omega)
theorem Nq9 {size i n : Nat} {cells news : List Value} (h : cells.length = n * size) (hi : i < n) : seg size i (cells ++ news) = seg size i cells:=by
 have h1 : (i + 1) * size ≤ n * size:=Nat.mul_le_mul_right _ hi;rw [Nat.add_mul,Nat.one_mul] at h1;apply List.ext_getElem?;intro j;by_cases hlt : j < size
 ·rw [seg_get hlt,seg_get hlt,List.getElem?_append_left (by omega)]
 ·rw [List.getElem?_eq_none (by unfold seg;rw [List.length_take];omega),List.getElem?_eq_none (by unfold seg;rw [List.length_take];omega)]
theorem Nr9 {size n : Nat} {cells news : List Value} (h : cells.length = n * size) (hn : news.length = size) : seg size n (cells ++ news) = news:=by
 unfold seg;rw [← h,List.drop_left,← hn,List.take_length]
theorem OwnRows.pushed {R : Rep α} {e : TypeId} {w w' : World} {base : Nat} {v v' : Value} {xs : List α} {fp : List Nat} {cells c : List Value} {x : α} {f : List Nat} {fps : List (List Nat)}
 (hlen : cells.length = xs.length * R.size) (hl : fps.length = xs.length) (he : ∀ (i : Nat) (x : α) (f : List Nat),xs[i]? = some x→fps[i]? = some f→R.own w base (seg R.size i cells) x f) (hfp : fp = v.ownBlock.toList ++ fps.flatten) (hn : fp.Nodup)
 (ho' : w'.ownsRow base e R.size v' (xs.length + 1) (cells ++ c)) (hg : w.grownBy w' v.ownBlock) (hat : v'.ownBlock = v.ownBlock ∨ v'.ownBlock = some w.heap.size) (hltv : ∀ k,v.ownBlock = some k→base ≤ k∧k < w.heap.size)
 (hx : R.own w base c x f) (hd : ∀ g,g ∈ f→g ∉ fp) :
 ∃ fp',OwnRows R e w' base v' (xs ++ [x]) fp'∧∀ g,g ∈ fp'→g ∈ fp ∨ g ∈ f ∨ g = w.heap.size:=by
 have hcl:=R.len (R.reads hx);have hltf : ∀ g,g ∈ fps.flatten→base ≤ g∧g < w.heap.size:=by
  intro g hg;obtain ⟨f,hfm,hgf⟩:=List.mem_flatten.1 hg;obtain ⟨i,hi,rfl⟩:=List.mem_iff_getElem.1 hfm;exact R.lt (he i _ _ (List.getElem?_eq_getElem (by omega)) (List.getElem?_eq_getElem hi)) g hgf
 have hn2:=List.nodup_append.1 (hfp ▸ hn);have hne : ∀ g,g ∈ fps.flatten→some g ≠ v.ownBlock:=fun g hg' he' => hn2.2.2 g (by rw [← he'];simp) g hg' rfl
 have hnf : ∀ g,g ∈ f→some g ≠ v.ownBlock:=fun g hg' he' => hd g hg' (by rw [hfp,← he'];simp)
 refine ⟨v'.ownBlock.toList ++ (fps ++ [f]).flatten,⟨cells ++ c,fps ++ [f],by simpa using ho',by simp [hl],?_,rfl,?_⟩,?_⟩
 ·intro i y fy hy hfy
  by_cases hi : i < xs.length
  ·rw [List.getElem?_append_left hi] at hy
   rw [List.getElem?_append_left (by omega)] at hfy
   rw [Nq9 hlen hi];exact R.kept (he i y fy hy hfy) fun g hg' => hg.block g (hltf g (mem_flatten_of hfy hg')).2 (hne g (mem_flatten_of hfy hg'))
  ·have hi' : i = xs.length:=by have:=(List.getElem?_eq_some_iff.1 hy).1;simp at this;omega
   subst hi';rw [List.getElem?_append_right (Nat.le_refl _)] at hy;rw [← hl,List.getElem?_append_right (Nat.le_refl _)] at hfy;simp at hy hfy;subst hy hfy;rw [Nr9 hlen hcl];exact R.kept hx fun g hg' => hg.block g (R.lt hx g hg').2 (hnf g hg')
 ·rw [List.nodup_append]
  refine ⟨nodup_toList _,?_,?_⟩
  ·rw [List.flatten_append,List.nodup_append]
   refine ⟨hn2.2.1,by simpa using R.nodup hx,fun a ha b hb e' => ?_⟩
   subst e';exact hd a (by simpa using hb) (by rw [hfp];exact List.mem_append_right _ ha)
  ·intro a ha b hb e'
   subst e';rw [List.flatten_append,List.mem_append] at hb;have hav : v'.ownBlock = some a:=by simpa using ha
   rcases hat with h1 | h1
   ·rw [h1] at hav
    rcases hb with hb | hb
    ·exact hne a hb hav.symm
    ·exact hnf a (by simpa using hb) hav.symm
   ·rw [h1] at hav
    injection hav with hav;rcases hb with hb | hb
    ·have:=(hltf a hb).2;omega
    ·have:=(R.lt hx a (by simpa using hb)).2;omega
 ·intro g hg'
  rw [List.flatten_append,List.mem_append,List.mem_append] at hg';rcases hg' with h1 | h1 | h1
  ·have hav : v'.ownBlock = some g:=by simpa using h1
   rcases hat with h2 | h2
   ·rw [h2] at hav
    exact .inl (by rw [hfp,hav];simp)
   ·rw [h2] at hav
    injection hav with hav;exact .inr (.inr hav.symm)
  ·exact .inl (by rw [hfp];exact List.mem_append_right _ h1)
  ·exact .inr (.inl (by simpa using h1))
theorem OwnRows.alloc {R : Rep α} {e : TypeId} {w : World} {base : Nat} {v : Value} {xs : List α} {fp : List Nat} (h : OwnRows R e w base v xs fp) (o : Obj) : OwnRows R e (w.alloc o) base v xs fp:=h.kept fun g hg => Below.heap_alloc w o g (h.lt g hg).2
theorem OwnRows.setLow {R : Rep α} {e : TypeId} {w : World} {base : Nat} {v : Value} {xs : List α} {fp : List Nat} (h : OwnRows R e w base v xs fp) {p : Addr} (hp : p.block < base) (u : Value) : OwnRows R e (w.setCell p u) base v xs fp:=
 h.kept fun g hg => heap_setCell_other _ _ _ _ (by have:=(h.lt g hg).1;omega)
theorem wpList_push {P : Program} (w : World) {ops : Array Oper} {rest : List Oper} {o : Oper} {a : Act} {Q : Exit→Act→World→Prop} (hgd : o.guard = none) (s x : Operand) (t : TypeId)
 (ho : o.op = .call { callee:=.builtin .append,args:=#[s,x],argTypes:=#[t,t] }) (R : Rep α)
 (base : Nat) (e : TypeId) (i : TypeInfo) (z : Value) (bytes : Nat) (ht : P.underlying t = some (.slice e)) (hi : P.info? e = some i) (hz : i.zero = some z)
 (hsize : i.size = R.size) (hby : i.bytes = bytes) (hzs : z.cells.size = R.size) (hsz : 0 < R.size)
 (v : Value) (xs : List α) (fp : List Nat) (hs : a.eval s = v) (hown : OwnRows R e w base v xs fp)
 (A : Option Addr) (c : Nat) (el : List Value) (y : α) (f : List Nat) (hx : a.eval x = .slice A 1 c) (hr : Reads w w.heap.size R.size A 1 el) (h1 : ∀ u ∈ el,u.oneCell' = true) (hy : R.own w base el y f) (hd : ∀ g,g ∈ f→g ∉ fp)
 (h63 : xs.length + 1 ≤ maxLen) (hbytes : (xs.length + 1) * bytes ≤ 140737488355328) (hbase : base ≤ w.heap.size)
 (h : ∀ A' c' w' fp',OwnRows R e w' base (.slice A' (xs.length + 1) c') (xs ++ [y]) fp'→w.grownBy w' v.ownBlock→(∀ g,g ∈ fp'→g ∈ fp ∨ g ∈ f ∨ g = w.heap.size)→(∀ k,v.ownBlock = some k→base ≤ k∧k ∈ fp)→wpList P ops Q rest (a.put o.dst (.slice A' (xs.length + 1) c')) w') : wpList P ops Q (o :: rest) a w:=by
 obtain ⟨cells,fps,hrow,hl,he,hfp,hn⟩:=hown;refine wpList_append_any w hgd s x t ho base e i z R.size bytes ht hi hz hsize hby hzs hsz v xs.length cells hs hrow w.heap.size A 1 c el hx hr h1 h63 hbytes hbase ?_;intro v' w' hrow' hg hat;obtain ⟨fp',hp,hf'⟩:=OwnRows.pushed (e:=e) hrow.1 hl he hfp hn hrow' hg hat (fun k hk => hrow.lt k hk) hy hd
 obtain ⟨A',c',rfl,_,_,_⟩:=hp.reads;rw [List.length_append,List.length_singleton] at hp ⊢;exact h A' c' w' fp' hp hg hf' fun k hk => ⟨(hrow.lt k hk).1,by rw [hfp,hk];simp⟩
theorem lit_empty (w : World) (e : TypeId) (size : Nat) {g : Nat} (hg : g = w.heap.size) : (w.alloc (.cells #[] e)).ownsRow w.heap.size e size (.slice (some ⟨g,0,none⟩) 0 0) 0 []:=by
 subst hg;exact World.ownsRow_lit w #[] 0 (Nat.le_refl _) (by simp) (by simp)
theorem wpList_bytes {P : Program} (w w0 : World) {ops : Array Oper} {rest : List Oper} {o : Oper} {a : Act} {Q : Exit→Act→World→Prop} (hgd : o.guard = none) (s x : Operand) (t : TypeId)
 (ho : o.op = .call { callee:=.builtin .append,args:=#[s,x],argTypes:=#[t,t] })
 (e : TypeId) (i : TypeInfo) (ht : P.underlying t = some (.slice e)) (hi : P.info? e = some i) (hz : i.zero = some (.int .u8 0)) (hsize : i.size = 1) (hby : i.bytes = 1)
 (v : Value) (hs : a.eval s = v) (base : Nat) (hown : w.ownsRow base e 1 v 0 []) (hbase : base ≤ w.heap.size)
 (B : Nat) (A : Option Addr) (c : Nat) (l : List UInt8) (hx : a.eval x = .slice A l.length c) (hr : Reads w B 1 A l.length (bys l)) (hl : l.length ≤ 1048576)
 (h : ∀ A' c' w',Owns w' base e (.slice A' l.length c') l→w.grownBy w' v.ownBlock→(∀ k,v.ownBlock = some k→base ≤ k)→wpList P ops Q rest (a.put o.dst (.slice A' l.length c')) w') : wpList P ops Q (o :: rest) a w:=by
 refine wpList_append_any w hgd s x t ho base e i (.int .u8 0) 1 1 ht hi hz hsize hby rfl (by omega) v 0 [] hs hown B A l.length c (bys l) hx hr (bys_one l) (by simp only [maxLen];omega) (by omega) hbase ?_
 intro v' w' hrow hg hat;have h2 : Owns w' base e v' l:=by unfold Owns;simpa using hrow
 obtain ⟨A',c',rfl,_⟩:=h2.shape;exact h A' c' w' h2 hg (fun k hk => (hown.lt k hk).1)
end Rep
theorem Am8 {α : Type} (R : Rep α) (e : TypeId) (w : World) (base n : Nat) (v : Value) (z : α) (c : List Value) (cells : List Value) (h : w.ownsRow base e R.size v n cells) (hc : ∀ i,i < n→Rep.seg R.size i cells = c) (hz : ∀ w,R.own w base c z []) :
 Rep.OwnRows R e w base v (List.replicate n z) v.ownBlock.toList:=by
 refine ⟨cells,List.replicate n [],by simpa using h,by simp,?_,by simp,Rep.nodup_toList _⟩
 intro i x f hx hf;rw [List.getElem?_replicate] at hx hf;split at hx
 ·rename_i hi
  rw [if_pos hi] at hf;injection hx with hx;injection hf with hf;subst hx hf;rw [hc i hi];exact hz w
 ·cases hx
theorem F7 {W w1 : World} (hb : Below W.heap.size W w1) : (∀ b o,b < W.heap.size→w1.cell? ⟨b,o,none⟩ = W.cell? ⟨b,o,none⟩)∧(∀ b o,b < W.heap.size→w1.frozen? ⟨b,o,none⟩ = W.frozen? ⟨b,o,none⟩):=
 ⟨fun b o h => hb.cell (p:=⟨b,o,none⟩) h,fun b o h => hb.frozen (p:=⟨b,o,none⟩) h⟩
theorem gcell {W w1 : World} (hg : W.grownBy w1 none) : (∀ b o,b < W.heap.size→w1.cell? ⟨b,o,none⟩ = W.cell? ⟨b,o,none⟩)∧(∀ b o,b < W.heap.size→w1.frozen? ⟨b,o,none⟩ = W.frozen? ⟨b,o,none⟩):=
 F7 ((Below.refl _ _).grown hg (Nat.le_refl _) (fun _ hk => by cases hk))
theorem Owns.setLow {w : World} {base : Nat} {e : TypeId} {v : Value} {l : List UInt8} (h : Owns w base e v l) {p : Addr} (hp : p.block < base) (u : Value) : Owns (w.setCell p u) base e v l:=
 Rep.ownsRow_block h fun g hg => heap_setCell_other _ _ _ _ (by have:=(h.lt g (by simpa using hg)).1;omega)
theorem E9 {w : World} {g t : Nat} {cs : Array Value} (h : w.heap[g]? = some (.cells cs t (0,0))) (i : Nat) : w.cell? ⟨g,i,none⟩ = cs[i]?:=cell_of_row w g i cs t (0,0) h
theorem C9 {w : World} {g t : Nat} {cs : Array Value} (h : w.heap[g]? = some (.cells cs t (0,0))) (i : Nat) : w.frozen? ⟨g,i,none⟩ = false:=by simp [World.frozen?,h]
theorem N9 {w : World} {g t : Nat} {cs : Array Value} (h : w.heap[g]? = some (.cells cs t (0,0))) (i : Nat) (u : Value) : (w.setCell ⟨g,i,none⟩ u).heap[g]? = some (.cells (cs.setIfInBounds i u) t (0,0)):=by
 simp [World.setCell,Array.getElem?_modify,h]
theorem G9 (w : World) (o : Obj) {n : Nat} (h : n = w.heap.size) : (w.alloc o).heap[n]? = some o:=by subst h;exact heap_alloc_new w o
theorem Dl9 {x lo hi : Int} (w : World) (h1 : lo ≤ x) (h2 : x ≤ hi) : Calls Tryz.prog 62 #[.int .i64 x,.int .i64 lo,.int .i64 hi] w fun e w' => e = .returned (.bool true)∧w = w':=by
 go_enter Tryz.func62,Tryz.ntmps62
 go_wp2
 go_ret
 exact ⟨rfl,rfl⟩
theorem Hs9 {x lo hi : Int} (w : World) (h : ¬ (lo ≤ x∧x ≤ hi)) : Calls Tryz.prog 62 #[.int .i64 x,.int .i64 lo,.int .i64 hi] w fun e w' => e = .returned (.bool false)∧w = w':=by
 by_cases h1 : lo ≤ x
 ·have h2 : ¬ x ≤ hi:=fun h2 => h ⟨h1,h2⟩
  clear h;go_enter Tryz.func62,Tryz.ntmps62
  go_wp2
  go_ret
  exact ⟨rfl,rfl⟩
 ·clear h
  go_enter Tryz.func62,Tryz.ntmps62
  go_wp2
  go_ret
  exact ⟨rfl,rfl⟩
theorem Kd9 {P : Program} {f : FuncId} {args : Array Value} {w : World} {n : Nat} {v : Value}
 (h : Calls P f args (w.drewN n) fun e w' => e = .returned v∧w.drewN n = w') : Calls P f args (w.drewN n) fun e w'' => e = .returned v∧∃ m,w'' = w.drewN m:=
 h.mono fun _ _ ⟨he,hm⟩ => ⟨he,n,hm.symm⟩
def Y8 (w : World) (b : Bool) (e : Ending) (w' : World) : Prop:=e = .returned (.bool b)∧Below w.heap.size w w'
def AllP {α : Type} (P : α→Prop) (xs : List α) (k : Nat) : Prop:=∀ l,l ∈ xs.take k→P l
theorem AllP.zero {α : Type} (P : α→Prop) (xs : List α) : AllP P xs 0:=by intro l hl;simp at hl
theorem AllP.succ {α : Type} {P : α→Prop} {xs : List α} {k : Nat} {l : α} (h : AllP P xs k) (hx : xs[k]? = some l) (hl : P l) : AllP P xs (k + 1):=by
 intro m hm;rw [Rep.take_get hx,List.mem_append] at hm;rcases hm with hm | hm
 ·exact h m hm
 ·simp at hm;subst hm;exact hl
theorem AllP.all {α : Type} {P : α→Prop} {xs : List α} (h : AllP P xs xs.length) : ∀ l,l ∈ xs→P l:=fun l hl => h l (by simpa using hl)
theorem Rep.only_of_below {w w' : World} (h : Below w.heap.size w w') : Rep.Only w w' []:=⟨h.os,h.tape,h.output,h.size,fun k hk _ => h.block k hk⟩
theorem Rep.only_drew (w : World) : Rep.Only w w.drew []:=⟨rfl,rfl,rfl,Nat.le_refl _,fun _ _ _ => rfl⟩
theorem Rep.only_alloc (w : World) (o : Obj) : Rep.Only w (w.alloc o) []:=Rep.only_of_below ((Below.refl _ _).alloc (Nat.le_refl _) o)
theorem Rep.var_only {w w' : World} {g : Nat} {o : Obj} {fp : List Nat} (h : Hid (w.heap[g]? = some o)) (ho : Rep.Only w w' fp) (hg : g < w.heap.size) (hn : g ∉ fp) : Hid (w'.heap[g]? = some o):=Lib.hid ((ho.block g hg hn).trans h.out)
theorem Rep.Only.then {w w1 w2 : World} {fp fp2 : List Nat} (h : Rep.Only w w1 fp) (h2 : Rep.Only w1 w2 fp2) (hf : ∀ a,a ∈ fp2→a ∈ fp ∨ w.heap.size ≤ a) : Rep.Only w w2 fp:=
 ⟨h2.os.trans h.os,h2.tape.trans h.tape,h2.output.trans h.output,Nat.le_trans h.size h2.size,fun k hk hn => (h2.block k (Nat.lt_of_lt_of_le hk h.size) (fun e => by rcases hf k e with h3 | h3;(exact hn h3);omega)).trans (h.block k hk hn)⟩
theorem Rep.Only.cell {w w' : World} {fp : List Nat} (h : Rep.Only w w' fp) {b o : Nat} (hb : b < w.heap.size) (hn : b ∉ fp) : w'.cell? ⟨b,o,none⟩ = w.cell? ⟨b,o,none⟩:=World.cell?_of_block (h.block b hb hn)
def Later (w w' : World) : Prop:=Below w.heap.size w w'
theorem Later.trans {w w1 w2 : World} (h : Later w w1) (h2 : Later w1 w2) : Later w w2:=Below.trans h (Below.mono h2 h.size)
theorem Later.drew (w : World) : Later w w.drew:=belowD (Below.refl _ _) 1
theorem Later.drewN (w : World) (n : Nat) : Later w (w.drewN n):=belowD (Below.refl _ _) n
theorem Later.alloc (w : World) (o : Obj) : Later w (w.alloc o):=(Below.refl _ _).alloc (Nat.le_refl _) o
theorem Later.refl (w : World) : Later w w:=Below.refl _ _
theorem Later.of {w w' : World} (h : Below w.heap.size w w') : Later w w':=h
class Keeps (F : World→Prop) : Prop where
 keeps : ∀ {w w' : World},Later w w'→F w→F w'
instance Keeps.and {F G : World→Prop} [Keeps F] [Keeps G] : Keeps (fun w => F w∧G w):=⟨fun h x => ⟨Keeps.keeps h x.1,Keeps.keeps h x.2⟩⟩
instance Keeps.hid {F : World→Prop} [Keeps F] : Keeps (fun w => Hid (F w)):=⟨fun h x => Lib.hid (Keeps.keeps (F:=F) h x.out)⟩
instance Keeps.at_ {α : Type} (R : Rep α) (cs : List Value) (x : α) : Keeps (fun w => R.at_ w w.heap.size cs x):=⟨fun h x => R.more (Rep.at_below x h) h.size⟩
instance Keeps.reads (size n : Nat) (A : Option Addr) (xs : List Value) : Keeps (fun w => Reads w w.heap.size size A n xs):=⟨fun h x => (x.below h).more h.size⟩
instance Keeps.own {α : Type} (R : Rep α) (base : Nat) (cs : List Value) (x : α) (fp : List Nat) : Keeps (fun w => R.own w base cs x fp):=⟨fun h x => Rep.own_below x h⟩
instance Keeps.block (g : Nat) (o : Obj) : Keeps (fun w => w.heap[g]? = some o):=⟨fun h x => (h.block g (Array.getElem?_eq_some_iff.1 x).1).trans x⟩
instance Keeps.cell (p : Addr) (v : Value) : Keeps (fun w => w.cell? p = some v):=⟨fun h x => (h.cell (World.block_lt_of_cell? _ _ x)).trans x⟩
instance Keeps.lt (n : Nat) : Keeps (fun w => n < w.heap.size):=⟨fun h x => Nat.lt_of_lt_of_le x h.size⟩
instance Keeps.le (n : Nat) : Keeps (fun w => n ≤ w.heap.size):=⟨fun h x => Nat.le_trans x h.size⟩
instance Keeps.below (w0 : World) : Keeps (fun w => Below w0.heap.size w0 w):=⟨fun h x => Later.trans x h⟩
instance Keeps.pure (p : Prop) : Keeps (fun _ => p):=⟨fun _ x => x⟩
structure All (F : World→Prop) (w : World) : Prop where
 out : F w
theorem All.later {F : World→Prop} [Keeps F] {w w' : World} (h : All F w) (hb : Below w.heap.size w w') : All F w':=⟨Keeps.keeps hb h.out⟩
theorem All.drew {F : World→Prop} [Keeps F] {w : World} (h : All F w) : All F w.drew:=h.later (Later.drew w)
theorem All.alloc {F : World→Prop} [Keeps F] {w : World} (h : All F w) (o : Obj) : All F (w.alloc o):=h.later (Later.alloc w o)
end Go.Proofs.YthpkdjflndiojaaGreatDoor
namespace Go.Proofs.YthpkdjflndiojaaGreatDoor
open Go.Lib
set_option maxRecDepth 100000
theorem Km9 (n : Int) : bits .and .i64 n 255 = n % 256:=by
 have hm : (BitVec.ofInt 64 255).toNat = 2 ^ 8 - 1:=by decide
 have key : (BitVec.ofInt 64 n &&& BitVec.ofInt 64 255).toNat = (n % ((2 ^ 64 : Nat) : Int)).toNat % 2 ^ 8:=by
  rw [BitVec.toNat_and,BitVec.toNat_ofInt,hm,Nat.and_two_pow_sub_one_eq_mod]
 show IntKind.i64.wrap ((BitVec.ofInt 64 n &&& BitVec.ofInt 64 255).toNat : Nat) = n % 256
 rw [key,IntKind.wrap_i64];omega
theorem Lv9 (n : Int) : bits .and .i64 n 65535 = n % 65536:=by
 have hm : (BitVec.ofInt 64 65535).toNat = 2 ^ 16 - 1:=by decide
 have key : (BitVec.ofInt 64 n &&& BitVec.ofInt 64 65535).toNat = (n % ((2 ^ 64 : Nat) : Int)).toNat % 2 ^ 16:=by
  rw [BitVec.toNat_and,BitVec.toNat_ofInt,hm,Nat.and_two_pow_sub_one_eq_mod]
 show IntKind.i64.wrap ((BitVec.ofInt 64 n &&& BitVec.ofInt 64 65535).toNat : Nat) = n % 65536
 rw [key,IntKind.wrap_i64];omega
theorem Bn8 (n : Int) : bits .and .i64 n 1073741823 = n % 1073741824:=by
 have hm : (BitVec.ofInt 64 1073741823).toNat = 2 ^ 30 - 1:=by decide
 have key : (BitVec.ofInt 64 n &&& BitVec.ofInt 64 1073741823).toNat = (n % ((2 ^ 64 : Nat) : Int)).toNat % 2 ^ 30:=by
  rw [BitVec.toNat_and,BitVec.toNat_ofInt,hm,Nat.and_two_pow_sub_one_eq_mod]
 show IntKind.i64.wrap ((BitVec.ofInt 64 n &&& BitVec.ofInt 64 1073741823).toNat : Nat) = n % 1073741824
 rw [key,IntKind.wrap_i64];omega
theorem Zt9 (a b : Nat) (ha : a < 4294967296) (hb : b < 4294967296) : bits .xor .i64 (a : Int) (b : Int) = ((a ^^^ b : Nat) : Int):=by
 show IntKind.i64.wrap ((BitVec.ofInt 64 (a : Int) ^^^ BitVec.ofInt 64 (b : Int)).toNat : Int) = _
 rw [BitVec.toNat_xor,ofInt_u64 a (by omega),ofInt_u64 b (by omega)]
 have h : a ^^^ b < 2 ^ 32:=Nat.xor_lt_two_pow ha hb;exact wrap_i64_small _ (by omega)
theorem Yd9 (a b : Nat) (ha : a < 4294967296) (hb : b < 4294967296) : bits .or .i64 (a : Int) (b : Int) = ((a ||| b : Nat) : Int):=by
 show IntKind.i64.wrap ((BitVec.ofInt 64 (a : Int) ||| BitVec.ofInt 64 (b : Int)).toNat : Int) = _
 rw [BitVec.toNat_or,ofInt_u64 a (by omega),ofInt_u64 b (by omega)]
 have h : a ||| b < 2 ^ 32:=Nat.or_lt_two_pow ha hb
 exact wrap_i64_small _ (by omega)
theorem Vs9 (a b : Nat) (ha : a < 256) (hb : b < 256) : bits .or .i64 ((a : Int) * 256) (b : Int) = (a : Int) * 256 + b:=by
 have e : ((a : Int) * 256) = ((256 * a : Nat) : Int):=by omega
 rw [e,Yd9 _ _ (by omega) (by omega)]
 have h:=Nat.two_pow_add_eq_or_of_lt (i:=8) (b:=b) (by omega) a
 have h' : 256 * a ||| b = 256 * a + b:=by simpa using h.symm
 rw [h'];omega
end Go.Proofs.YthpkdjflndiojaaGreatDoor
namespace Go.Proofs.YthpkdjflndiojaaGreatDoor
open Go.RowKit
set_option maxRecDepth 100000
theorem Ep9 (A B : Option Addr) (c d : Nat) (l l' : List UInt8) (w : World) (h : Reads w w.heap.size 1 A l.length (bys l)) (h' : Reads w w.heap.size 1 B l'.length (bys l')) (hn : l.length ≤ 1000000000) (hn' : l'.length ≤ 1000000000) :
 Calls Tryz.prog 103 #[.slice A l.length c,.slice B l'.length d] w fun e w' => ∃ v,e = .returned v∧Owns w' w.heap.size 5 v (l ++ l')∧Below w.heap.size w w':=by
 obtain ⟨i0,hi0,hz0,hz1,hz2⟩:=info_parts Tryz.info8;go_enter Tryz.func103,Tryz.ntmps103
 go_wp2_with (first
  | (at_make; refine wpList_make_own _ rfl _ _ _ rfl w.heap.size 5 i0 _ 1 Tryz.underlying22 hi0 hz0 hz1 _ _ _ (l.length + l'.length) rfl rfl (by omega) (by rw [hz2]; omega) (by simp only [maxLen]; omega) (Nat.le_refl _) ?_; intro w1 hown1 hg1
     have hb1 : Below w.heap.size w w1:=(Below.refl _ _).grown hg1 (Nat.le_refl _) (fun _ hk => by cases hk))
  | (at_builtin
     refine wpList_append_any _ rfl (.tmp 12) (.tmp 13) _ rfl w.heap.size 5 i0 _ 1 1 Tryz.underlying22 hi0 hz0 hz1 hz2 rfl (by omega) _ 0 [] rfl hown1 w.heap.size A l.length c (bys l) rfl (h.below hb1) (bys_one l) (by simp only [maxLen];omega) (by omega) hb1.size ?_
     intro v2 w2 hown2 hg2 hat2;have hb2 : Below w.heap.size w w2:=hb1.grown hg2 hb1.size (fun k hk => (hown1.lt k hk).1))
  | (at_builtin
     refine wpList_append_any _ rfl (.tmp 15) (.tmp 16) _ rfl w.heap.size 5 i0 _ 1 1 Tryz.underlying22 hi0 hz0 hz1 hz2 rfl (by omega) v2 (0 + l.length) ([] ++ bys l) rfl hown2 w.heap.size B l'.length d (bys l') rfl (h'.below hb2) (bys_one l') (by simp only [maxLen];omega) (by omega) hb2.size ?_
     intro v3 w3 hown3 hg3 hat3))
 go_ret
 refine ⟨v3,rfl,?_,hb2.grown hg3 hb2.size (fun k hk => (hown2.lt k hk).1)⟩
 unfold Owns;rw [bys_append,List.length_append];simpa using hown3
def u8 (n : Int) : UInt8:=UInt8.ofNat (n % 256).toNat
theorem Gc9 (n : Int) : (((u8 n).toNat : Nat) : Int) = n % 256:=by
 unfold u8;simp;omega
def F9 (n : Int) : List UInt8:=[u8 (n / 256),u8 n]
theorem Ig9 (n : Int) : bys (F9 n) = [.int .u8 (n / 256 % 256),.int .u8 (n % 256)]:=by
 simp [bys,F9,Gc9]
theorem Gy9 (w : World) (cs : Array Value) (n : Nat) (e : TypeId) (hs : cs.size = n) (hm : n ≤ maxLen) : Reads (w.alloc (.cells cs e)) (w.alloc (.cells cs e)).heap.size 1 (some ⟨w.heap.size,0,none⟩) n cs.toList:=
 Reads.of_own (World.ownsRow_lit (base:=0) (e:=e) (size:=1) w cs n (Nat.zero_le _) hm (by omega))
theorem Cs9 (A : Option Addr) (c : Nat) (n : Int) (l : List UInt8) (w : World) (h : Reads w w.heap.size 1 A l.length (bys l)) (hn : l.length ≤ 100000000) :
 Calls Tryz.prog 78 #[.slice A l.length c,.int .i64 n] w fun e w' => ∃ v,e = .returned v∧Owns w' w.heap.size 5 v (l ++ F9 n)∧Below w.heap.size w w':=by
 go_enter Tryz.func78,Tryz.ntmps78
 go_wp2_with fail;have hnew:=Gy9 w #[.int .u8 (n / 256 % 256),.int .u8 (n % 256)] 2 5 rfl (by simp [maxLen])
 refine (Ep9 A _ c 2 l (F9 n) _ ((h.alloc (Nat.le_refl _) _).more (by simp)) (by rw [Ig9];exact hnew) (by omega) (by simp [F9])).mono ?_
 rintro e w1 ⟨v,rfl,hown,hb⟩;have hb' : Below w.heap.size w w1:=((Below.refl _ _).alloc (Nat.le_refl _) _).trans (hb.mono (by simp))
 go_wp2
 go_ret
 exact ⟨v,rfl,ownsRow_mono hown (by simp),hb'⟩
theorem I8 (A : Option Addr) (c : Nat) (n : Int) (l : List UInt8) (w : World) (h : Reads w w.heap.size 1 A l.length (bys l)) (hn : l.length ≤ 100000000) :
 Calls Tryz.prog 64 #[.slice A l.length c,.int .i64 n] w fun e w' => ∃ v,e = .returned v∧Owns w' w.heap.size 5 v (l ++ F9 n)∧Below w.heap.size w w':=by
 obtain ⟨i0,hi0,hz0,hz1,hz2⟩:=info_parts Tryz.info8;have hb0 : Below w.heap.size w (w.alloc (.cells #[] 5)):=(Below.refl _ _).alloc (Nat.le_refl _) _;have hown0 : (w.alloc (.cells #[] 5)).ownsRow w.heap.size 5 1 (.slice (some ⟨w.heap.size,0,none⟩) 0 0) 0 []:=World.ownsRow_lit w #[] 0 (Nat.le_refl _) (by simp) rfl
 go_enter Tryz.func64,Tryz.ntmps64
 go_wp2_with (first
  | (at_builtin
     refine wpList_append_any _ rfl (.tmp 5) (.tmp 6) _ rfl w.heap.size 5 i0 _ 1 1 Tryz.underlying22 hi0 hz0 hz1 hz2 rfl (by omega) _ 0 [] rfl hown0 w.heap.size A l.length c (bys l) rfl (h.below hb0) (bys_one l) (by simp only [maxLen];omega) (by omega) hb0.size ?_
     intro v2 w2 hown2 hg2 hat2;have hb2 : Below w.heap.size w w2:=hb0.grown hg2 hb0.size (fun k hk => (hown0.lt k hk).1)
     clear hown0 hg2 hat2)
  | (at_builtin
     have hnew:=Gy9 w2 #[.int .u8 (bits BinOp.and IntKind.i64 (n / 256) 255 % 256),.int .u8 (bits BinOp.and IntKind.i64 n 255 % 256)] 2 5 rfl (by simp [maxLen])
     refine wpList_append_any _ rfl (.tmp 7) (.tmp 15) _ rfl w.heap.size 5 i0 _ 1 1 Tryz.underlying22 hi0 hz0 hz1 hz2 rfl (by omega) v2 (0 + l.length) ([] ++ bys l) rfl (hown2.alloc _) _ _ 2 _ _ rfl hnew (by simp;exact ⟨rfl,rfl⟩) (by simp only [maxLen];omega) (by omega) (Nat.le_trans hb2.size (by simp)) ?_
     clear hnew;intro v3 w3 hown3 hg3 hat3))
 go_ret
 refine ⟨v3,rfl,?_,(hb2.alloc hb2.size _).grown hg3 (Nat.le_trans hb2.size (by simp)) (fun k hk => (hown2.lt k hk).1)⟩
 have e1 : (n / 256) % 256 % 256 = n / 256 % 256:=by omega
 have e2 : n % 256 % 256 = n % 256:=by omega
 rw [Km9,Km9,e1,e2] at hown3;unfold Owns;rw [bys_append,List.length_append,Ig9];simpa [F9] using hown3
end Go.Proofs.YthpkdjflndiojaaGreatDoor
namespace Go.Proofs.YthpkdjflndiojaaGreatDoor
set_option maxRecDepth 100000
def Hz9 (s : Nat) : Nat:=if 65535 < s * 2 then (s * 2) ^^^ 69665 else s * 2
def Dd9 : Nat→Nat→Nat
 | 0,s => s
 | j + 1,s => Hz9 (Dd9 j s)
def Of9 (s : Nat) (b : UInt8) : Nat:=Dd9 8 (s ^^^ (b.toNat * 256))
def crc (l : List UInt8) : Nat:=l.foldl Of9 65535
def Ii9 (l : List UInt8) (k : Nat) : Nat:=crc (l.take k)
theorem By8 {s : Nat} (h : s < 65536) : Hz9 s < 65536:=by
 unfold Hz9;split
 ·rename_i hb
  have e : (s * 2) ^^^ 69665 = ((s * 2) % 2 ^ 16) ^^^ (69665 % 2 ^ 16):=by
   have h1 : ((s * 2) ^^^ 69665) < 2 ^ 16 := by
        have hlt : (s * 2) ^^^ 69665 < 2 ^ 17:=Nat.xor_lt_two_pow (by omega) (by omega)
        rcases Nat.lt_or_ge ((s * 2) ^^^ 69665) (2 ^ 16) with h | h
        ·exact h
        ·exfalso
         have hb16 : ((s * 2) ^^^ 69665).testBit 16 = true:=by
          rw [Nat.testBit_eq_decide_div_mod_eq];simp;omega
         rw [Nat.testBit_xor] at hb16;have e1 : (s * 2).testBit 16 = true:=by
          rw [Nat.testBit_eq_decide_div_mod_eq];simp;omega
         have e2 : (69665).testBit 16 = true:=by decide
         rw [e1,e2] at hb16;cases hb16
   rw [← Nat.xor_mod_two_pow,Nat.mod_eq_of_lt h1]
  rw [e];have h2 : ((s * 2) % 2 ^ 16) ^^^ (69665 % 2 ^ 16) < 2 ^ 16:=Nat.xor_lt_two_pow (Nat.mod_lt _ (by decide)) (Nat.mod_lt _ (by decide))
  exact h2
 ·omega
theorem Hy9 {s : Nat} (h : s < 65536) : ∀ j,Dd9 j s < 65536
 | 0 => h
 | j + 1 => By8 (Hy9 h j)
theorem Yo9 {s : Nat} (h : s < 65536) (b : UInt8) : Of9 s b < 65536:=by
 have hb : b.toNat < 256:=b.toNat_lt;have h' : s ^^^ (b.toNat * 256) < 2 ^ 16:=Nat.xor_lt_two_pow (by omega) (by omega)
 exact Hy9 (by omega) 8
theorem Tx9 (l : List UInt8) : ∀ (s : Nat),s < 65536→l.foldl Of9 s < 65536:=by
 induction l with
 | nil => intro s h;rw [List.foldl_nil];exact h
 | cons b l ih => intro s h;rw [List.foldl_cons];exact ih _ (Yo9 h b)
theorem Du8 (l : List UInt8) : crc l < 65536:=Tx9 l _ (by omega)
theorem Ws9 (l : List UInt8) (k : Nat) : Ii9 l k < 65536:=Du8 _
theorem Qg9 {l : List UInt8} {k : Nat} {b : UInt8} (h : l[k]? = some b) : Ii9 l (k + 1) = Of9 (Ii9 l k) b:=by
 unfold Ii9 crc;rw [List.take_add_one,h,List.foldl_append];simp only [Option.toList,List.foldl_cons,List.foldl_nil]
theorem Sb9 (l : List UInt8) : Ii9 l l.length = crc l:=by unfold Ii9;rw [List.take_length]
theorem Zx9 {s : Nat} {b : UInt8} (h : s < 65536) : bits .xor .i64 (s : Int) (256 * (b.toNat : Int)) = ((s ^^^ (b.toNat * 256) : Nat) : Int):=by
 have hb : b.toNat < 256:=b.toNat_lt;rw [show (256 * (b.toNat : Int)) = ((b.toNat * 256 : Nat) : Int) by omega]
 exact Zt9 _ _ (by omega) (by omega)
theorem Dt8 {s : Nat} {b : UInt8} (h : s < 65536) : bits .xor .i64 (s : Int) ((b.toNat : Int) * 256) = ((s ^^^ (b.toNat * 256) : Nat) : Int):=by
 rw [Int.mul_comm];exact Zx9 h
theorem Qf9 {s : Nat} {b : UInt8} (h : s < 65536) : s ^^^ (b.toNat * 256) < 65536:=by
 have hb : b.toNat < 256:=b.toNat_lt;have h' : s ^^^ (b.toNat * 256) < 2 ^ 16:=Nat.xor_lt_two_pow (by omega) (by omega)
 omega
theorem Zy9 {s : Nat} (h : s < 65536) (ht : 65535 < (s : Int) * 2) : bits .xor .i64 ((s : Int) * 2) 69665 = ((Hz9 s : Nat) : Int):=by
 have e : ((s : Int) * 2) = ((s * 2 : Nat) : Int):=by omega
 have e2 : (69665 : Int) = ((69665 : Nat) : Int):=by omega
 rw [e,e2,Zt9 _ _ (by omega) (by omega)]
 unfold Hz9;rw [if_pos (by omega)]
theorem Zz9 {s : Nat} (ht : ¬ 65535 < (s : Int) * 2) : (s : Int) * 2 = ((Hz9 s : Nat) : Int):=by
 unfold Hz9;rw [if_neg (by omega)]
 omega
theorem Wr9 (l : List UInt8) : ((crc l : Nat) : Int) % 65536 = (crc l : Nat):=by
 have:=Du8 l;omega
end Go.Proofs.YthpkdjflndiojaaGreatDoor
