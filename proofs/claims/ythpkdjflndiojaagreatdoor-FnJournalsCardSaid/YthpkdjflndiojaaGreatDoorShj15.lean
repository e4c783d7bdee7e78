/- What the theorem needs, out of many texts. -/
import Derived.Test.YthpkdjflndiojaaGreatDoorShj14
import Derived.Maps.OwnSet
import Derived.Maps.Views
set_option maxHeartbeats 20000000
namespace Go.Proofs.YthpkdjflndiojaaGreatDoor
open Go.RowKit Go.Maps
set_option maxRecDepth 2000000
set_option linter.unusedVariables false
def Hg9 (v : Value) : Option (DataW Value × List MemPlace):=some (.held v,[])
theorem Oe9 : Keyed Tryz.prog 3:=int_keyed Tryz.underlying3
theorem zero_by (w : World) : (zeroValue 22).run Tryz.prog w = .ok (.slice none 0 0) w:=by kernel_rfl
def Am9 (p : Nat→Int→Bool) : Nat→Int→Option Nat
 | 0,_ => none
 | k + 1,i => if p k i = true then some k else Am9 p k i
theorem Lu9 {p : Nat→Int→Bool} {k j : Nat} {i : Int} (h : Am9 p k i = some j) : j < k∧p j i = true:=by
 induction k with
 | zero => cases h
 | succ k ih =>
   unfold Am9 at h;split at h
   ·rename_i hp
    injection h with h;subst h;exact ⟨by omega,hp⟩
   ·obtain ⟨h1,h2⟩:=ih h
    exact ⟨by omega,h2⟩
def key (cache : List Wr) (k : Nat) (i : Int) : Bool:=match cache[k]? with | some x => x.n == i | none => false
theorem Kk9 {cache : List Wr} {k : Nat} {x : Wr} (h : cache[k]? = some x) (i : Int) : key cache k i = (x.n == i):=by simp [key,h]
def MapIs (w : World) (mb m : Nat) (cells : List Value) (idx : Int→Option Nat) : Prop:=
 ∃ D : DataW Value,w.ownsMap Tryz.prog 3 Hg9 mb m D∧IsMap D∧∀ i,(Lit.int .i64 i).wf = true→has D (.int .i64 i) = (idx i).isSome∧∀ j,idx i = some j→∀ z,D.atKey (.int .i64 i) z = .held (cells.getD (2 * j + 1) undef)
theorem MapIs.of_block {w w' : World} {mb m : Nat} {cells : List Value} {idx : Int→Option Nat} (h : MapIs w mb m cells idx) (hb : w'.heap[mb]? = w.heap[mb]?) : MapIs w' mb m cells idx:=by
 obtain ⟨D,⟨es,clock,h1,h2,h3,h4⟩,hD,hi⟩:=h;exact ⟨D,⟨es,clock,hb.trans h1,h2,h3,h4⟩,hD,hi⟩
theorem MapIs.lt {w : World} {mb m : Nat} {cells : List Value} {idx : Int→Option Nat} (h : MapIs w mb m cells idx) : mb < w.heap.size:=by
 obtain ⟨D,ho,_⟩:=h;exact ho.lt
theorem MapIs.made (w : World) (cells : List Value) : MapIs (w.alloc (.map #[] 0)) w.heap.size 0 cells (fun _ => none):=
 ⟨.map [],World.ownsMap_made _ _ _ _,isMap_empty,fun i _ => ⟨rfl,fun j hj => by cases hj⟩⟩
theorem MapIs.put {w' : World} {mb m k : Nat} {cells : List Value} {idx : Int→Option Nat} {n : Int} (hn : (Lit.int .i64 n).wf = true) {D : DataW Value} (hD : IsMap D)
 (hi : ∀ i,(Lit.int .i64 i).wf = true→has D (.int .i64 i) = (idx i).isSome∧∀ j,idx i = some j→∀ z,D.atKey (.int .i64 i) z = .held (cells.getD (2 * j + 1) undef))
 (ho : w'.ownsMap Tryz.prog 3 Hg9 mb m (D.put (.int .i64 n) (.held (cells.getD (2 * k + 1) undef)))) : MapIs w' mb m cells (fun i => if n = i then some k else idx i):=by
 refine ⟨_,ho,hD.put _ _,fun i hw => ?_⟩
 by_cases he : n = i
 ·subst he
  refine ⟨by rw [has_put_same hD (by trivial)];simp,fun j hj z => ?_⟩
  replace hj : (if n = n then some k else idx n) = some j:=hj
  rw [if_pos rfl] at hj;injection hj with hj;subst hj;exact atKey_put_same hD (by trivial) _ _
 ·have hne : (Lit.int .i64 i) ≠ (Lit.int .i64 n):=fun h => he (by injection h with h1 h2;exact h2.symm)
  obtain ⟨h1,h2⟩:=hi i hw;refine ⟨by show _ = (if n = i then some k else idx i).isSome;rw [has_put_other hne,if_neg he];exact h1,fun j hj z => ?_⟩
  replace hj : (if n = i then some k else idx i) = some j:=hj
  rw [if_neg he] at hj;rw [atKey_put_other hne];exact h2 j hj z
theorem MapIs.weak {w : World} {mb m : Nat} {cells : List Value} {idx idx' : Int→Option Nat} (h : MapIs w mb m cells idx) (he : ∀ i,idx i = idx' i) : MapIs w mb m cells idx':=by
 have : idx = idx':=funext he;subst this;exact h
theorem Dd8 (w : World) {ops : Array Oper} {rest : List Oper} {o : Oper} {a : Act} {Q : Exit→Act→World→Prop} (hgd : o.guard = none) (m x v : Operand) (hop : o.op = Op.mapUpdate 109 m x v) (mb k : Nat) (D : DataW Value)
 (hm : a.eval m = .map (some mb)) (ho : w.ownsMap Tryz.prog 3 Hg9 mb k D) (hk : k < maxLen) (n : Int) (val : Value) (hx : a.eval x = .int .i64 n) (hv : a.eval v = val) (hn : (Lit.int .i64 n).wf = true)
 (hK : ∀ w',w'.ownsMap Tryz.prog 3 Hg9 mb (k + 1) (D.put (.int .i64 n) (.held val))→w.mapTurned w' mb→wpList Tryz.prog ops Q rest (a.put o.dst undef) w') : wpList Tryz.prog ops Q (o :: rest) a w:=by
 have hky:=keyOf_int_mk (P:=Tryz.prog) Tryz.underlying3 hn;exact wpList_mapUpdate_in (P:=Tryz.prog) (ops:=ops) (rest:=rest) (o:=o) (a:=a) (Q:=Q) w hgd m x v 109 hop 3 22 Oe9 Tryz.underlying109 Hg9 mb k D hm ho hk (.int .i64 n) val (.int .i64 n) hx hv hky (.held val) [] rfl hK
theorem To9 (w : World) : w.grownBy w.drew none:=⟨rfl,rfl,rfl,Nat.le_refl _,fun _ _ _ => rfl⟩
theorem Io9 {w : World} {B size n k : Nat} {A : Option Addr} {cells : List Value} (hr : Reads w B size A n cells) (hk : k < n) (hs : 0 < size) :
 ∃ b off,A = some ⟨b,off,none⟩∧b < B∧∀ j u,(Rep.seg size k cells)[j]? = some u→w.cell? ⟨b,off + (k * size + j),none⟩ = some u:=by
 obtain ⟨ad,hA,hb,hc⟩:=hr.2 (by omega)
 have hlen:=hr.1;have hpos : 0 < cells.length:=by rw [hlen];exact Nat.mul_pos (by omega) hs
 have h0:=hc 0 _ (List.getElem?_eq_getElem hpos);obtain ⟨b,off,spot⟩:=ad;have hsp : spot = none:=by simpa [Addr.add] using World.cell?_spot h0
 subst hsp;refine ⟨b,off,hA,hb,fun j u hu => ?_⟩
 have hj : j < size:=by
  rcases Nat.lt_or_ge j size with h' | h'
  ·exact h'
  ·rw [List.getElem?_eq_none (by rw [Rep.seg_length hlen hk];omega)] at hu;cases hu
 rw [Rep.seg_get hj] at hu;have:=hc _ _ hu;have e : (⟨b,off,none⟩ : Addr).add (k * size + j) = ⟨b,off + (k * size + j),none⟩:=by
  unfold Addr.add;split <;> simp_all
 rwa [e] at this
theorem Sj9 {w : World} {B k : Nat} {cells : List Value} {x : Wr} (h : wrR.at_ w B (Rep.seg 2 k cells) x) (hl : 2 * k + 1 < cells.length) :
 ∃ A c,Rep.seg 2 k cells = [.int .i64 x.n,.slice A x.b.length c]∧cells.getD (2 * k + 1) undef = .slice A x.b.length c∧(x.b.length ≤ c∧c ≤ maxLen)∧Reads w B 1 A x.b.length (bys x.b):=by
 have hlx : (Rep.seg 2 k cells).length = 2:=Rep.len wrR h;obtain ⟨hn1,A,c,hn2,hlc,hrl⟩:=h;have hseg : Rep.seg 2 k cells = [.int .i64 x.n,.slice A x.b.length c]:=by
  replace hn1 : (Rep.seg 2 k cells).take 1 = [.int .i64 x.n]:=hn1;replace hn2 : (Rep.seg 2 k cells).drop 1 = [.slice A x.b.length c]:=hn2;rw [← List.take_append_drop 1 (Rep.seg 2 k cells),hn1,hn2];rfl
 refine ⟨A,c,hseg,?_,hlc,hrl⟩;have h1:=Rep.seg_get (size:=2) (i:=k) (j:=1) (cells:=cells) (by omega)
 rw [hseg] at h1;rw [List.getD_eq_getElem?_getD,show 2 * k + 1 = k * 2 + 1 by omega,← h1]
 rfl
def Eo8 (w : World) (vs vc : Value) (d : Disk) (cells : List Value) (e : Ending) (w' : World) : Prop:=
 ∃ g mb,e = .returned (.pointer (some ⟨g,0,none⟩))∧w'.heap[g]? = some (.cells #[vs,vc,.int .i64 d.fuse,.bool d.down,.map (some mb)] 111 (0,0))∧MapIs w' mb d.cache.length cells (Am9 (key d.cache) d.cache.length)∧Below w.heap.size w w'∧w.heap.size ≤ g∧w.heap.size ≤ mb∧g ≠ mb
set_option maxRecDepth 100000 in
theorem Ix9 (A A' : Option Addr) (c c' : Nat) (d : Disk) (cells : List Value) (w : World) (hr : Reads w w.heap.size 2 A' d.cache.length cells) (he : ∀ i x,d.cache[i]? = some x→wrR.at_ w w.heap.size (Rep.seg 2 i cells) x) (hf : d.cache.length ≤ 1048576) (hwf : ∀ x,x ∈ d.cache→(Lit.int .i64 x.n).wf = true) :
 Calls Tryz.prog 74 #[.agg #[.slice A d.secs.length c,.slice A' d.cache.length c',.int .i64 d.fuse,.bool d.down]] w (Eo8 w (.slice A d.secs.length c) (.slice A' d.cache.length c') d cells):=by
 have hmm:=@run_makeMap Tryz.prog;have HE:=Lib.hid he;have HW:=Lib.hid hwf;clear he hwf;go_enter Tryz.func74,Tryz.ntmps74
 go_wp2
 have hW0 : Below w.heap.size w (((w.alloc (.cells #[.slice A d.secs.length c,.slice A' d.cache.length c',.int .i64 d.fuse,.bool d.down] 27)).alloc (.map #[] 0)).alloc (.cells #[.slice A d.secs.length c,.slice A' d.cache.length c',.int .i64 d.fuse,.bool d.down,.map (some (w.heap.size + 1))] 111)):=
  (((Below.refl w.heap.size w).alloc (Nat.le_refl _) _).alloc (by simp) _).alloc (by simp;omega) _
 have v0 : (((w.alloc (.cells #[.slice A d.secs.length c,.slice A' d.cache.length c',.int .i64 d.fuse,.bool d.down] 27)).alloc (.map #[] 0)).alloc (.cells #[.slice A d.secs.length c,.slice A' d.cache.length c',.int .i64 d.fuse,.bool d.down,.map (some (w.heap.size + 1))] 111)).heap[w.heap.size + 1 + 1]? = some (.cells #[.slice A d.secs.length c,.slice A' d.cache.length c',.int .i64 d.fuse,.bool d.down,.map (some (w.heap.size + 1))] 111 (0,0)):=
  G9 _ _ (by simp)
 have hm : MapIs (((w.alloc (.cells #[.slice A d.secs.length c,.slice A' d.cache.length c',.int .i64 d.fuse,.bool d.down] 27)).alloc (.map #[] 0)).alloc (.cells #[.slice A d.secs.length c,.slice A' d.cache.length c',.int .i64 d.fuse,.bool d.down,.map (some (w.heap.size + 1))] 111)) (w.heap.size + 1) 0 cells (Am9 (key d.cache) 0):=by
  have h1:=MapIs.made (w.alloc (.cells #[.slice A d.secs.length c,.slice A' d.cache.length c',.int .i64 d.fuse,.bool d.down] 27)) cells;rw [show (w.alloc (.cells #[.slice A d.secs.length c,.slice A' d.cache.length c',.int .i64 d.fuse,.bool d.down] 27)).heap.size = w.heap.size + 1 by simp] at h1
  exact (h1.of_block (Below.heap_alloc _ _ _ (by simp))).weak fun _ => rfl
 have hz : w.heap.size + 1 + 1 < (((w.alloc (.cells #[.slice A d.secs.length c,.slice A' d.cache.length c',.int .i64 d.fuse,.bool d.down] 27)).alloc (.map #[] 0)).alloc (.cells #[.slice A d.secs.length c,.slice A' d.cache.length c',.int .i64 d.fuse,.bool d.down,.map (some (w.heap.size + 1))] 111)).heap.size:=by simp
 generalize hgW : ((w.alloc (.cells #[.slice A d.secs.length c,.slice A' d.cache.length c',.int .i64 d.fuse,.bool d.down] 27)).alloc (.map #[] 0)).alloc (.cells #[.slice A d.secs.length c,.slice A' d.cache.length c',.int .i64 d.fuse,.bool d.down,.map (some (w.heap.size + 1))] 111) = W1 at hW0 v0 hm hz ⊢;clear hgW hmm;have V0:=Lib.hid v0;clear v0;go_loopw [13] (fun i wr => ∃ k : Nat,k ≤ d.cache.length∧i = .int .i64 k∧Hid (wr.heap[w.heap.size + 1 + 1]? = some (.cells #[.slice A d.secs.length c,.slice A' d.cache.length c',.int .i64 d.fuse,.bool d.down,.map (some (w.heap.size + 1))] 111 (0,0)))∧MapIs wr (w.heap.size + 1) k cells (Am9 (key d.cache) k)∧Below w.heap.size w wr∧w.heap.size + 1 + 1 < wr.heap.size) (fun i _ => d.cache.length - (intOf i).toNat)
 case atStart => exact ⟨0,by omega,rfl,V0,hm,hW0,hz⟩
 case round =>
  obtain ⟨k,hk,rfl,v0,hm,hb,hz⟩:=hrel;clear V0 hW0;by_cases hlt : k < d.cache.length
  ·obtain ⟨x,hx⟩:=Rep.getElem?_of_lt (xs:=d.cache) rfl hlt
   have hwx:=HW.out x (List.mem_of_getElem? hx);have hkx:=Lib.hid (Kk9 hx);obtain ⟨A2,c2,hseg,hgd,_,_⟩:=Sj9 (HE.out k x hx) (by have:=hr.1;omega)
   obtain ⟨b,off,rfl,hbl,hcell⟩:=Io9 hr hlt (by decide)
   rw [hseg] at hcell;have e0 : wr.cell? ⟨b,off + k * 2,none⟩ = some (.int .i64 x.n):=(hb.cell hbl).trans (hcell 0 _ rfl);have e1 : wr.cell? ⟨b,off + k * 2 + 1,none⟩ = some (.slice A2 x.b.length c2):=(hb.cell hbl).trans (hcell 1 _ rfl);have HG:=Lib.hid hgd;clear hcell hseg hgd hx;have i1 : (0 : Int) ≤ (k : Int):=by omega
   have i2 : (k : Int) < (d.cache.length : Int):=by omega
   go_wp2
   have hvw:=heap_alloc_new wr (.cells #[.int .i64 x.n,.slice A2 x.b.length c2] 84);have hkA : ∀ a,a < wr.heap.size→(wr.alloc (.cells #[.int .i64 x.n,.slice A2 x.b.length c2] 84)).heap[a]? = wr.heap[a]?:=fun a ha => Below.heap_alloc wr _ a ha
   have hBA : Below w.heap.size w (wr.alloc (.cells #[.int .i64 x.n,.slice A2 x.b.length c2] 84)):=hb.alloc hb.size _;have hzA : (wr.alloc (.cells #[.int .i64 x.n,.slice A2 x.b.length c2] 84)).heap.size = wr.heap.size + 1:=by simp
   generalize hgw : wr.alloc (.cells #[.int .i64 x.n,.slice A2 x.b.length c2] 84) = wa at hkA hvw hBA hzA ⊢;clear hgw e0 e1;have vA:=(hkA (w.heap.size + 1 + 1) hz).trans v0.out;have mA:=hm.of_block (w':=wa) (hkA (w.heap.size + 1) (by omega))
   have eM : wa.cell? ⟨w.heap.size + 1 + 1,4,none⟩ = some (.map (some (w.heap.size + 1))):=E9 vA 4;have eN : wa.cell? ⟨wr.heap.size,0,none⟩ = some (.int .i64 x.n):=E9 hvw 0;have eB : wa.cell? ⟨wr.heap.size,1,none⟩ = some (.slice A2 x.b.length c2):=E9 hvw 1;obtain ⟨D,ho,hD,hi⟩:=mA;have HI:=Lib.hid hi;have VA:=Lib.hid vA;have HKA:=Lib.hid hkA;clear hi vA hkA hvw;refine M9 8 [0,1,2,3,4,5,6,7] [8] (fun w' => w'.cell? ⟨w.heap.size + 1 + 1,4,none⟩ = some (.map (some (w.heap.size + 1)))∧w'.cell? ⟨wr.heap.size,0,none⟩ = some (.int .i64 x.n)∧w'.cell? ⟨wr.heap.size,1,none⟩ = some (.slice A2 x.b.length c2)) (by kernel_rfl) (by kernel_rfl) ⟨eM,eN,eB⟩ ?_
   iterate 8 (refine LexR.cons rfl ?_ (fun w' hw => ?_) ?_;rotate_left;focus (obtain ⟨e1,e2,e3⟩:=hw;go_simp;(try exact rfl));(try go_frame))
   refine LexR.nil (LexW.cons rfl ?_);go_frame
   have hkm : k < maxLen:=by simp only [maxLen];omega
   go_wp2_with (at_mapUpdate
                go_must (refine Dd8 wa.drew rfl (.tmp 20) (.tmp 22) (.tmp 24) rfl (w.heap.size + 1) k D rfl ho.drew hkm x.n (.slice A2 x.b.length c2) rfl rfl hwx ?_)
                intro w3 hown3 hturn3)
   refine ⟨fun h => absurd rfl h,LexW.nil ?_⟩
   have hg3:=hturn3.grown;have hB3 : Below w.heap.size w w3:=hBA.grown ((World.grownBy.but (To9 wa) _).trans hg3) hBA.size (fun j hj => by injection hj with hj;omega)
   rw [← HG.out] at hown3
   have hM3 := (MapIs.put (k := k) hwx hD HI.out hown3).weak (idx' := Am9 (key d.cache) (k + 1)) (fun i => by
       show (if x.n = i then some k else Am9 (key d.cache) k i) = Am9 (key d.cache) (k + 1) i
       have e1 : Am9 (key d.cache) (k + 1) i = if key d.cache k i = true then some k else Am9 (key d.cache) k i:=rfl
       rw [e1,hkx.out i];by_cases he : x.n = i
       ·rw [if_pos he,if_pos (by simpa using he)]
       ·rw [if_neg he,if_neg (by simpa using he)])
   have V3:=Lib.hid ((hg3.block (w.heap.size + 1 + 1) (by show _ < wa.heap.size;omega) (by simp)).trans VA.out)
   have hz3 : w.heap.size + 1 + 1 < w3.heap.size:=by have:=hg3.size;have e : wa.drew.heap.size = wa.heap.size:=rfl;omega
   clear hg3 hturn3 hown3;go_wp2_with fail;go_roundw
   case rel => exact ⟨k + 1,by omega,by go_num,V3,hM3,hB3,hz3⟩
   case measure => simp [intOf];omega
  ·have he : k = d.cache.length:=by omega
   subst he;go_wp2
   go_ret
   exact ⟨w.heap.size + 1 + 1,w.heap.size + 1,rfl,v0.out,hm,hb,by omega,by omega,by omega⟩
def Bk9 (d : Disk) (n : Int) (k : Nat) : List UInt8:=match Am9 (key d.cache) k n with | some j => (d.cache.getD j ⟨0,[]⟩).b | none => d.secs.getD n.toNat []
theorem On9 {d : Disk} {n : Int} {k j : Nat} {x : Wr} (h : Am9 (key d.cache) k n = some j) (hx : d.cache[j]? = some x) : Bk9 d n k = x.b:=by
 unfold Bk9;rw [h];show (d.cache.getD j ⟨0,[]⟩).b = x.b
 rw [List.getD_eq_getElem?_getD,hx];rfl
theorem Ne9 {d : Disk} {n : Int} {k : Nat} {l : List UInt8} (h : Am9 (key d.cache) k n = none) (hx : d.secs[n.toNat]? = some l) : Bk9 d n k = l:=by
 unfold Bk9;rw [h];show d.secs.getD n.toNat [] = l
 rw [List.getD_eq_getElem?_getD,hx];rfl
def Df9 (d : Disk) (n : Int) : Prop:=0 ≤ n∧n < (d.secs.length : Int)
noncomputable def P9 (d : Disk) (n : Int) : List UInt8:=@ite _ (Z9 d∧Df9 d n) (Classical.propDecidable _) (Bk9 d n d.cache.length) []
theorem Bb9 {d : Disk} {n : Int} (h : Z9 d) (h2 : Df9 d n) : P9 d n = Bk9 d n d.cache.length:=by unfold P9;exact @if_pos _ (Classical.propDecidable _) ⟨h,h2⟩ _ _ _
theorem El9 {d : Disk} {n : Int} (h : ¬ (Z9 d∧Df9 d n)) : P9 d n = []:=by unfold P9;exact @if_neg _ (Classical.propDecidable _) h _ _ _
theorem Zq9 (w : World) {ops : Array Oper} {rest : List Oper} {o : Oper} {a : Act} {Q : Exit→Act→World→Prop} (hgd : o.guard = none) (m x : Operand) (hop : o.op = Op.lookup 109 m x true) (mb k : Nat) (cells : List Value) (idx : Int→Option Nat)
 (hm : a.eval m = .map (some mb)) (h : MapIs w mb k cells idx) (n : Int) (hx : a.eval x = .int .i64 n) (hn : (Lit.int .i64 n).wf = true) (val : Value) (b : Bool)
 (hv : (∃ j,idx n = some j∧val = cells.getD (2 * j + 1) undef∧b = true) ∨ (idx n = none∧val = .slice none 0 0∧b = false))
 (hK : wpList Tryz.prog ops Q rest (a.put o.dst (.tuple #[val,.bool b])) w) : wpList Tryz.prog ops Q (o :: rest) a w:=by
 obtain ⟨D,ho,hD,hi⟩:=h;obtain ⟨h1,h2⟩:=hi n hn;have hky:=keyOf_int_mk (P:=Tryz.prog) Tryz.underlying3 hn;refine wpList_lookup_own_ok (P:=Tryz.prog) (ops:=ops) (rest:=rest) (o:=o) (a:=a) (Q:=Q) w hgd m x 109 hop 3 22 Oe9 Tryz.underlying109 Hg9 (zero_by w) (.held (.slice none 0 0)) [] rfl mb k D hm ho (.int .i64 n) (.int .i64 n) hx hky ?_;intro v ps hvv;have hv' : DataW.held v = D.atKey (.int .i64 n) (.held (.slice none 0 0)):=by
  have : (some (DataW.held v,([] : List MemPlace))) = some (D.atKey (.int .i64 n) (.held (.slice none 0 0)),ps):=hvv;exact (Prod.mk.inj (Option.some.inj this)).1
 rcases hv with ⟨j,hj,rfl,rfl⟩ | ⟨hj,rfl,rfl⟩
 ·rw [h2 j hj] at hv'
  injection hv' with hv';subst hv';rw [h1,hj];exact hK
 ·rw [hj] at h1
  rw [atKey_of_not_has h1] at hv';injection hv' with hv';subst hv';rw [h1];exact hK
theorem Rb9 (g mb m : Nat) (A : Option Addr) (c : Nat) (vc : Value) (d : Disk) (cells : List Value) (n : Int) (w : World) (hv : w.heap[g]? = some (.cells #[.slice A d.secs.length c,vc,.int .i64 d.fuse,.bool d.down,.map (some mb)] 111 (0,0)))
 (hm : MapIs w mb m cells (Am9 (key d.cache) d.cache.length)) (hr : Rep.RowsAt byR w w.heap.size A d.secs.length d.secs) (hlen : cells.length = d.cache.length * 2) (he : ∀ i x,d.cache[i]? = some x→wrR.at_ w w.heap.size (Rep.seg 2 i cells) x) (hn : Df9 d n) (hf : Ag9 d) :
 Calls Tryz.prog 98 #[.pointer (some ⟨g,0,none⟩),.int .i64 n] w (RetBytes w (Bk9 d n d.cache.length)):=by
 obtain ⟨h0,h1⟩:=hn;obtain ⟨nn,rfl⟩:=Int.eq_ofNat_of_zero_le h0;have hf1:=hf.1;have hwf : (Lit.int .i64 (nn : Int)).wf = true:=by exact WalkArith.wf_i64 (by omega)
 have c0 : w.cell? ⟨g,0,none⟩ = some (.slice A d.secs.length c):=E9 hv 0;have c4 : w.cell? ⟨g,4,none⟩ = some (.map (some mb)):=E9 hv 4;clear hv;rcases hidx : Am9 (key d.cache) d.cache.length (nn : Int) with _ | j
 ·obtain ⟨b,off,A2,c2,l,rfl,hbl,hx,hcell,hlc,hrl⟩:=Ek9 hr (show nn < d.secs.length by omega)
  have hrd:=Ne9 hidx hx;rw [hrd];have hl : l.length ≤ 1048576:=hf.2.1 l (List.mem_of_getElem? hx);have HI:=Lib.hid hidx;clear hidx hx hrd he;go_enter Tryz.func98,Tryz.ntmps98
  go_wp2_with (at_lookup;go_must (refine Zq9 w rfl (.tmp 11) (.tmp 12) rfl mb m cells _ rfl hm nn rfl hwf (.slice none 0 0) false (.inr ⟨HI.out,rfl,rfl⟩) ?_))
  refine (Fy9 A2 c2 l w hrl hl).mono ?_;rintro e w3 ⟨A3,c3,rfl,hown3,hb3⟩;go_wp2
  go_ret
  exact ⟨A3,c3,rfl,hown3,hb3⟩
 ·obtain ⟨hj,hk⟩:=Lu9 hidx
  obtain ⟨x,hx⟩:=Rep.getElem?_of_lt (xs:=d.cache) rfl hj;obtain ⟨A2,c2,hseg,hgd,hlc,hrl⟩:=Sj9 (he j x hx) (by omega)
  have hrd:=On9 hidx hx;rw [hrd];have hl : x.b.length ≤ 1048576:=hf.2.2.2 x (List.mem_of_getElem? hx);have HI:=Lib.hid hidx;have HG:=Lib.hid hgd;clear hidx hx hrd hseg hgd hk he;go_enter Tryz.func98,Tryz.ntmps98
  go_wp2_with (at_lookup;go_must (refine Zq9 w rfl (.tmp 11) (.tmp 12) rfl mb m cells _ rfl hm nn rfl hwf (.slice A2 x.b.length c2) true (.inl ⟨j,HI.out,HG.out.symm,rfl⟩) ?_))
  refine (Fy9 A2 c2 x.b w hrl hl).mono ?_;rintro e w3 ⟨A3,c3,rfl,hown3,hb3⟩;go_wp2
  go_ret
  exact ⟨A3,c3,rfl,hown3,hb3⟩
theorem Sl9 {d : Disk} (h : Z9 d) : ∀ x,x ∈ d.cache→(Lit.int .i64 x.n).wf = true:=fun x hx => by
 have h1:=h.2.2.1 x hx;have h2:=h.1.2.1;obtain ⟨a,b,_⟩:=h1;exact WalkArith.wf_i64 (by omega)
set_option maxRecDepth 100000 in
theorem Uy9 (cs : List Value) (d : Disk) (n : Int) (w : World) (h : diskR.at_ w w.heap.size cs d) (hf : Ag9 d) :
 Calls Tryz.prog 69 #[.agg cs.toArray,.int .i64 n] w (RetBytes w (P9 d n)):=by
 obtain ⟨A,c,A',c',rfl,hc,hc',hr,hr'⟩:=Bl9 h;obtain ⟨y,hy⟩ : ∃ y,Bz9 d = y:=⟨_,rfl⟩;have HOK:=Lib.hid hy;clear hy;go_enter Tryz.func69,Tryz.ntmps69
 go_wp2_with fail;have hW1 : Below w.heap.size w (w.alloc (.cells #[.slice A d.secs.length c,.slice A' d.cache.length c',.int .i64 d.fuse,.bool d.down] 27)):=(Below.refl w.heap.size w).alloc (Nat.le_refl _) _;have v0:=heap_alloc_new w (.cells #[.slice A d.secs.length c,.slice A' d.cache.length c',.int .i64 d.fuse,.bool d.down] 27);have hz : w.heap.size < (w.alloc (.cells #[.slice A d.secs.length c,.slice A' d.cache.length c',.int .i64 d.fuse,.bool d.down] 27)).heap.size:=by simp
 generalize hgW : w.alloc (.cells #[.slice A d.secs.length c,.slice A' d.cache.length c',.int .i64 d.fuse,.bool d.down] 27) = W1 at hW1 v0 hz ⊢;clear hgW;refine (Hv9 _ d W1 (Rep.more diskR (Rep.at_below h hW1) hW1.size) hf).mono ?_;rintro e w2 ⟨rfl,hb2⟩;rw [HOK.out];have hW2:=hW1.trans (hb2.mono hW1.size);have V2:=Lib.hid ((hb2.block w.heap.size hz).trans v0);have hz2 : w.heap.size < w2.heap.size:=by have:=hb2.size;omega
 clear hb2 hW1 v0 hz;have c0 : w2.cell? ⟨w.heap.size,0,none⟩ = some (.slice A d.secs.length c):=E9 V2.out 0;have c1 : w2.cell? ⟨w.heap.size,1,none⟩ = some (.slice A' d.cache.length c'):=E9 V2.out 1;have c2 : w2.cell? ⟨w.heap.size,2,none⟩ = some (.int .i64 d.fuse):=E9 V2.out 2;have c3 : w2.cell? ⟨w.heap.size,3,none⟩ = some (.bool d.down):=E9 V2.out 3;have hat2:=Rep.more diskR (Rep.at_below h hW2) hW2.size;cases y with
 | false =>
   have HR:=Lib.hid (El9 (n:=n) (fun hh => Er9 HOK.out hh.1))
   go_wp2
   go_ret
   exact ⟨some ⟨w2.heap.size,0,none⟩,0,by rw [HR.out];rfl,by rw [HR.out];exact Hb9 (Rep.lit_empty w2 _ _ rfl) (by omega),hW2.alloc hW2.size _⟩
 | true =>
   have hg:=Cv9 HOK.out;by_cases hin : Df9 d n
   ·have HR:=Lib.hid (Bb9 hg hin)
    go_wp2_with fail;refine (Ko9 _ d n w2 hat2 hin.1 hin.2).mono ?_;rintro e w3 ⟨rfl,hb3⟩;have hW3:=hW2.trans (hb3.mono hW2.size);obtain ⟨hcc,hff⟩:=F7 hb3;obtain ⟨_,cells,hrd,hel⟩:=hr';have hel3:=fun i x hx => Rep.more wrR (Rep.at_below (hel i x hx) hW3) hW3.size
    have HE:=Lib.hid hel3;clear hel hel3 hb3;go_wp2_with fail;refine (Ix9 A A' c c' d cells w3 ((hrd.below hW3).more hW3.size) HE.out hf.2.2.1 (Sl9 hg)).mono ?_;rintro e w4 ⟨g,mb,rfl,hv4,hm4,hb4,hg1,hg2,hg3⟩;have hW4:=hW3.trans (hb4.mono hW3.size);clear hcc hff;go_wp2_with fail;refine (Rb9 g mb d.cache.length A c (.slice A' d.cache.length c') d cells n w4 hv4 hm4 ((hr.keep fun p hp => hW4.cell hp).more hW4.size) (by have:=hrd.1;exact this) (fun i x hx => Rep.more wrR (Rep.at_below (HE.out i x hx) hb4) hb4.size) hin hf).mono ?_
    rintro e w5 ⟨A3,c3',rfl,hown5,hb5⟩;go_wp2
    go_ret
    exact ⟨A3,c3',by rw [HR.out];rfl,by rw [HR.out];exact ownsRow_mono hown5 hW4.size,hW4.trans (hb5.mono hW4.size)⟩
   ·have HR:=Lib.hid (El9 (n:=n) (d:=d) (fun hh => hin hh.2))
    go_wp2_with fail;refine (Mq9 _ d n w2 hat2 hin).mono ?_;rintro e w3 ⟨rfl,hb3⟩;have hW3:=hW2.trans (hb3.mono hW2.size);go_wp2
    go_ret
    exact ⟨some ⟨w3.heap.size,0,none⟩,0,by rw [HR.out];rfl,by rw [HR.out];exact Hb9 (Rep.lit_empty w3 _ _ rfl) (by have:=hW3.size;omega),hW3.alloc hW3.size _⟩
set_option maxRecDepth 100000 in
theorem Sw9 (cs : List Value) (d : Disk) (n : Int) (w : World) (h : diskR.at_ w w.heap.size cs d) (hf : Ag9 d) :
 Calls Tryz.prog 32 #[.agg cs.toArray,.int .i64 n] w (RetBytes w (P9 d n)):=by
 obtain ⟨A,c,A',c',rfl,hc,hc',hr,hr'⟩:=Bl9 h;obtain ⟨j0,hj0,hj1,hj2,hj3⟩:=info_parts Tryz.info8;obtain ⟨y,hy⟩ : ∃ y,Bz9 d = y:=⟨_,rfl⟩;have HOK:=Lib.hid hy;clear hy;go_enter Tryz.func32,Tryz.ntmps32
 go_wp2_with fail;have hW1 : Below w.heap.size w (w.alloc (.cells #[.slice A d.secs.length c,.slice A' d.cache.length c',.int .i64 d.fuse,.bool d.down] 27)):=(Below.refl w.heap.size w).alloc (Nat.le_refl _) _;have v0:=heap_alloc_new w (.cells #[.slice A d.secs.length c,.slice A' d.cache.length c',.int .i64 d.fuse,.bool d.down] 27);have hz : w.heap.size < (w.alloc (.cells #[.slice A d.secs.length c,.slice A' d.cache.length c',.int .i64 d.fuse,.bool d.down] 27)).heap.size:=by simp
 generalize hgW : w.alloc (.cells #[.slice A d.secs.length c,.slice A' d.cache.length c',.int .i64 d.fuse,.bool d.down] 27) = W1 at hW1 v0 hz ⊢;clear hgW;refine (Gm9 _ d W1 (Rep.more diskR (Rep.at_below h hW1) hW1.size) hf).mono ?_;rintro e w2 ⟨rfl,hb2⟩;rw [HOK.out];have hW2:=hW1.trans (hb2.mono hW1.size);have V2:=Lib.hid ((hb2.block w.heap.size hz).trans v0);have hz2 : w.heap.size < w2.heap.size:=by have:=hb2.size;omega
 clear hb2 hW1 v0 hz;have c0 : w2.cell? ⟨w.heap.size,0,none⟩ = some (.slice A d.secs.length c):=E9 V2.out 0;have c1 : w2.cell? ⟨w.heap.size,1,none⟩ = some (.slice A' d.cache.length c'):=E9 V2.out 1;have f1:=hf.1;have f3:=hf.2.2.1;cases y with
 | false =>
   have HR:=Lib.hid (El9 (n:=n) (fun hh => Er9 HOK.out hh.1))
   go_wp2
   go_ret
   exact ⟨some ⟨w2.heap.size,0,none⟩,0,by rw [HR.out];rfl,by rw [HR.out];exact Hb9 (Rep.lit_empty w2 _ _ rfl) (by omega),hW2.alloc hW2.size _⟩
 | true =>
   have hg:=Cv9 HOK.out;by_cases hin : 0 ≤ n∧n ≤ (d.secs.length : Int) - 1
   ·have HR:=Lib.hid (Bb9 (n:=n) hg ⟨hin.1,by omega⟩)
    obtain ⟨nn,rfl⟩:=Int.eq_ofNat_of_zero_le hin.1;obtain ⟨b,off,A2,c2,l,rfl,hbl,hx,hcell,hlc,hrl⟩:=Ek9 (hr.keep fun p hp => hW2.cell hp) (show nn < d.secs.length by omega)
    have h0 : Bk9 d nn 0 = l:=Ne9 rfl hx;have hl0 : l.length ≤ 1048576:=hf.2.1 l (List.mem_of_getElem? hx);have H0:=Lib.hid h0;obtain ⟨_,cells,hrd,hel⟩:=hr';have hel2:=fun i x hx => Rep.at_below (hel i x hx) hW2
    have hrd2:=hrd.below hW2;have HE:=Lib.hid hel2;obtain ⟨hq1,hq2⟩:=id hin;have hin':=Lib.hid hin;clear hel hel2 hx h0 hrd hin;have i1 : (0 : Int) ≤ (nn : Int):=by omega
    have i2 : (nn : Int) < (d.secs.length : Int):=by omega
    go_wp2_with fail;refine (Dl9 _ hin'.out.1 hin'.out.2).mono ?_;rintro e w3 ⟨rfl,rfl⟩;go_wp2_with fail;go_loop [5,6] (fun q i => ∃ (k : Nat) (A3 : Option Addr) (c3 : Nat) (m : List UInt8),k ≤ d.cache.length∧i = .int .i64 k∧q = .slice A3 m.length c3∧Hid (Bk9 d nn k = m)∧Reads w2 w.heap.size 1 A3 m.length (bys m)∧m.length ≤ 1048576) (fun _ i => d.cache.length - (intOf i).toNat)
    case atStart => exact ⟨0,A2,c2,l,by omega,rfl,rfl,H0,hrl,hl0⟩
    case round =>
       obtain ⟨k,A3,c3,m,hk,rfl,rfl,hm,hrm,hml⟩:=hrel;by_cases hlt : k < d.cache.length
       ·obtain ⟨x,hx⟩:=Rep.getElem?_of_lt (xs:=d.cache) rfl hlt
        have hkx:=Lib.hid (Kk9 hx);have hxl : x.b.length ≤ 1048576:=hf.2.2.2 x (List.mem_of_getElem? hx);have HX:=Lib.hid hx;obtain ⟨A4,c4,hseg,hgd,_,hr4⟩:=Sj9 (HE.out k x hx) (by have:=hrd2.1;rw [this];show 2 * k + 1 < d.cache.length * 2;omega)
        obtain ⟨b',off',rfl,hbl',hcell'⟩:=Io9 hrd2 hlt (by decide)
        rw [show wrR.size = 2 from rfl,hseg] at hcell'
        have e0 : w2.cell? ⟨b',off' + k * 2,none⟩ = some (.int .i64 x.n):=hcell' 0 _ rfl;have e1 : w2.cell? ⟨b',off' + k * 2 + 1,none⟩ = some (.slice A4 x.b.length c4):=hcell' 1 _ rfl;clear hcell' hseg hgd hx;have j1 : (0 : Int) ≤ (k : Int):=by omega
        have j2 : (k : Int) < (d.cache.length : Int):=by omega
        have e5 : Am9 (key d.cache) (k + 1) nn = if key d.cache k nn = true then some k else Am9 (key d.cache) k nn:=rfl
        have E5:=Lib.hid e5;clear e5;by_cases hh : x.n = (nn : Int)
        ·have g1 : (x.n == (nn : Int)) = true:=by simpa using hh
         have hnew:=Lib.hid (On9 (d:=d) (n:=(nn : Int)) (k:=k + 1) (j:=k) (x:=x) (by rw [E5.out,hkx.out,if_pos g1]) HX.out)
         have HH:=Lib.hid hh;clear hh;go_wp2
         go_round
         case rel => exact ⟨k + 1,A4,c4,x.b,by omega,by go_num,rfl,hnew,hr4,hxl⟩
         case measure => simp [intOf];omega
        ·have g1 : (x.n == (nn : Int)) = false:=by simpa using hh
         have hnew : Hid (Bk9 d nn (k + 1) = m) := Lib.hid (by
            rw [← hm.out];unfold Bk9;rw [E5.out,hkx.out,if_neg (by simp [g1])])
         clear hh;go_wp2
         go_round
         case rel => exact ⟨k + 1,A3,c3,m,by omega,by go_num,rfl,hnew,hrm,hml⟩
         case measure => simp [intOf];omega
       ·have he : k = d.cache.length:=by omega
        subst he
        go_wp2_with (at_builtin
                     go_must (refine Rep.wpList_bytes _ w2 rfl (.tmp 46) (.tmp 47) _ rfl 5 j0 Tryz.underlying22 hj0 hj1 hj2 hj3 _ rfl w2.heap.size (Rep.lit_empty w2 _ _ rfl) (by simp) w.heap.size A3 c3 m rfl (hrm.alloc hW2.size _) hml ?_)
                     intro A5 c5 w5 hown5 hg5 hv5)
        go_ret
        exact ⟨A5,c5,by rw [HR.out,hm.out];rfl,by rw [HR.out,hm.out];exact ownsRow_mono hown5 hW2.size,(hW2.alloc hW2.size _).grown hg5 (by simp;omega) (fun k hk => by have:=hv5 k hk;omega)⟩
   ·have HR:=Lib.hid (El9 (n:=n) (d:=d) (fun hh => hin ⟨hh.2.1,by have:=hh.2.2;omega⟩))
    have hin':=Lib.hid hin;clear hin;go_wp2_with fail;refine (Hs9 _ hin'.out).mono ?_;rintro e w3 ⟨rfl,rfl⟩;go_wp2
    go_ret
    exact ⟨some ⟨w2.heap.size,0,none⟩,0,by rw [HR.out];rfl,by rw [HR.out];exact Hb9 (Rep.lit_empty w2 _ _ rfl) (by omega),hW2.alloc hW2.size _⟩
end Go.Proofs.YthpkdjflndiojaaGreatDoor
namespace Go.Proofs.YthpkdjflndiojaaGreatDoor
open Go.RowKit
set_option maxRecDepth 2000000
set_option linter.unusedVariables false
def Sh9 (l : List UInt8) : Prop:=l.length ≤ 1048576
theorem Jy9 {w : World} {B : Nat} {cs : List Value} {l : List UInt8} (h : byR.at_ w B cs l) : ∃ A c,cs = [.slice A l.length c]:=by
 obtain ⟨A,c,rfl,_⟩:=h;exact ⟨A,c,rfl⟩
def Eq8 (d : Disk) : Prop:=(∀ x,x ∈ d.cache→(Lit.int .i64 x.n).wf = true)∧(Lit.int .i64 d.fuse).wf = true
theorem G7 {w : World} {B : Nat} {cs : List Value} {d : Disk} (h : diskR.at_ w B cs d) : ∃ A c A' c',cs = [.slice A d.secs.length c,.slice A' d.cache.length c',.int .i64 d.fuse,.bool d.down]:=by
 obtain ⟨A,c,A',c',rfl,_⟩:=Bl9 h;exact ⟨A,c,A',c',rfl⟩
theorem Q9 {w : World} {base : Nat} {cs : List Value} {d : Disk} {fp : List Nat} (h : diskR.own w base cs d fp) : ∃ A c A' c',cs = [.slice A d.secs.length c,.slice A' d.cache.length c',.int .i64 d.fuse,.bool d.down]:=G7 (Rep.reads diskR h)
theorem Lz9 (n : Int) : Ag9 (An9 n):=by
 unfold An9;split
 ·exact ⟨by simp;omega,by simp,by simp,by simp⟩
 ·exact ⟨by simp [Ef9],by simp [Ef9],by simp [Ef9],by simp [Ef9]⟩
theorem Wf9 (n : Int) (w : World) (hw : (Lit.int .i64 n).wf = true) : Calls Tryz.prog 36 #[.int .i64 n] w (RetDisk w (An9 n)):=Wg9 n w
theorem Ym9 (cs : List Value) (d : Disk) (w : World) (h : diskR.at_ w w.heap.size cs d) (hs : Ag9 d) : Calls Tryz.prog 28 #[.agg cs.toArray] w (Y8 w (Bz9 d)):=Hv9 cs d w h hs
theorem We9 (cs : List Value) (d : Disk) (w : World) (h : diskR.at_ w w.heap.size cs d) (hs : Ag9 d) : Calls Tryz.prog 30 #[.agg cs.toArray] w (Y8 w (Bz9 d)):=Gm9 cs d w h hs
def RetB (w : World) (l : List UInt8) (e : Ending) (w' : World) : Prop:=∃ A c fp,e = .returned (.slice A l.length c)∧byR.own w' w.heap.size [.slice A l.length c] l fp∧Below w.heap.size w w'
theorem RetBytes.b {w : World} {l : List UInt8} {e : Ending} {w' : World} (h : RetBytes w l e w') : RetB w l e w':=by
 obtain ⟨A,c,he,ho,hb⟩:=h;exact ⟨A,c,_,he,⟨_,rfl,ho,rfl⟩,hb⟩
theorem Wc9 {d : Disk} (h : Ag9 d) (n : Int) (k : Nat) : (Bk9 d n k).length ≤ 1048576:=by
 unfold Bk9;split
 ·rename_i j _
  rw [List.getD_eq_getElem?_getD];rcases hx : d.cache[j]? with _ | x
  ·simp
  ·exact h.2.2.2 x (List.mem_of_getElem? hx)
 ·rw [List.getD_eq_getElem?_getD]
  rcases hx : d.secs[n.toNat]? with _ | x
  ·simp
  ·exact h.2.1 x (List.mem_of_getElem? hx)
theorem Az9 {d : Disk} (h : Ag9 d) (n : Int) : Sh9 (P9 d n):=by
 by_cases hg : Z9 d∧Df9 d n
 ·rw [Bb9 hg.1 hg.2];exact Wc9 h n _
 ·rw [El9 hg];simp [Sh9]
theorem Ge9 (cs : List Value) (d : Disk) (n : Int) (w : World) (h : diskR.at_ w w.heap.size cs d) (hf : Ag9 d) (hw : (Lit.int .i64 n).wf = true) : Calls Tryz.prog 69 #[.agg cs.toArray,.int .i64 n] w (RetB w (P9 d n)):=(Uy9 cs d n w h hf).mono fun _ _ h => h.b
theorem Fi9 (cs : List Value) (d : Disk) (n : Int) (w : World) (h : diskR.at_ w w.heap.size cs d) (hf : Ag9 d) (hw : (Lit.int .i64 n).wf = true) : Calls Tryz.prog 32 #[.agg cs.toArray,.int .i64 n] w (RetB w (P9 d n)):=(Sw9 cs d n w h hf).mono fun _ _ h => h.b
def X9 (f : Int) : Int:=if 0 < f then f - 1 else f
theorem Nj9 (g : Nat) (a b : Value) (dn : Bool) (w : World) (hv : w.heap[g]? = some (.cells #[a,b,.int .i64 0,.bool dn] 27 (0,0))) :
 Calls Tryz.prog 61 #[.pointer (some ⟨g,0,none⟩)] w fun e w' => e = .returned (.bool false)∧Hid (w'.heap[g]? = some (.cells #[a,b,.int .i64 (-1),.bool true] 27 (0,0)))∧Rep.Only w w' [g]:=by
 have c2 : w.cell? ⟨g,2,none⟩ = some (.int .i64 0):=E9 hv 2;have c3 : w.cell? ⟨g,3,none⟩ = some (.bool dn):=E9 hv 3;have q2:=C9 hv 2;have q3:=C9 hv 3;have HV:=Lib.hid hv;clear hv;go_enter Tryz.func61,Tryz.ntmps61
 go_wp2
 go_ret
 exact ⟨rfl,Lib.hid (N9 (N9 HV.out 3 (.bool true)) 2 (.int .i64 (-1))),(Rep.Only.setCell w (by simp) _).trans (Rep.Only.setCell _ (by simp) _)⟩
theorem Rn9 (g : Nat) (a b : Value) (f : Int) (dn : Bool) (w : World) (hv : w.heap[g]? = some (.cells #[a,b,.int .i64 f,.bool dn] 27 (0,0))) (h0 : f ≠ 0) (h1 : -1 ≤ f) (h2 : f ≤ 1000) :
 Calls Tryz.prog 61 #[.pointer (some ⟨g,0,none⟩)] w fun e w' => e = .returned (.bool true)∧Hid (w'.heap[g]? = some (.cells #[a,b,.int .i64 (X9 f),.bool dn] 27 (0,0)))∧Rep.Only w w' [g]:=by
 have c2 : w.cell? ⟨g,2,none⟩ = some (.int .i64 f):=E9 hv 2;have q2:=C9 hv 2;have HV:=Lib.hid hv;have hne : (f == 0) = false:=by simpa using h0
 clear hv h0;by_cases hp : 0 < f
 ·have hp' : f > 0:=hp
  have HF:=Lib.hid (show X9 f = f - 1 by unfold X9;rw [if_pos hp])
  go_enter Tryz.func61,Tryz.ntmps61
  go_wp2
  go_ret
  exact ⟨rfl,Lib.hid (by rw [HF.out];exact N9 HV.out 2 (.int .i64 (f - 1))),Rep.Only.setCell w (by simp) _⟩
 ·have HF:=Lib.hid (show X9 f = f by unfold X9;rw [if_neg hp])
  go_enter Tryz.func61,Tryz.ntmps61
  go_wp2
  go_ret
  exact ⟨rfl,Lib.hid (by rw [HF.out];exact HV.out),Rep.Only.refl _ _⟩
theorem Lk9 (g : Nat) (a b m : Value) (dn : Bool) (w : World) (hv : w.heap[g]? = some (.cells #[a,b,.int .i64 0,.bool dn,m] 111 (0,0))) :
 Calls Tryz.prog 101 #[.pointer (some ⟨g,0,none⟩)] w fun e w' => e = .returned (.bool false)∧Hid (w'.heap[g]? = some (.cells #[a,b,.int .i64 (-1),.bool true,m] 111 (0,0)))∧Rep.Only w w' [g]:=by
 have c2 : w.cell? ⟨g,2,none⟩ = some (.int .i64 0):=E9 hv 2;have c3 : w.cell? ⟨g,3,none⟩ = some (.bool dn):=E9 hv 3;have q2:=C9 hv 2;have q3:=C9 hv 3;have HV:=Lib.hid hv;clear hv;go_enter Tryz.func101,Tryz.ntmps101
 go_wp2
 go_ret
 exact ⟨rfl,Lib.hid (N9 (N9 HV.out 3 (.bool true)) 2 (.int .i64 (-1))),(Rep.Only.setCell w (by simp) _).trans (Rep.Only.setCell _ (by simp) _)⟩
theorem Oq9 (g : Nat) (a b m : Value) (f : Int) (dn : Bool) (w : World) (hv : w.heap[g]? = some (.cells #[a,b,.int .i64 f,.bool dn,m] 111 (0,0))) (h0 : f ≠ 0) (h1 : -1 ≤ f) (h2 : f ≤ 1000) :
 Calls Tryz.prog 101 #[.pointer (some ⟨g,0,none⟩)] w fun e w' => e = .returned (.bool true)∧Hid (w'.heap[g]? = some (.cells #[a,b,.int .i64 (X9 f),.bool dn,m] 111 (0,0)))∧Rep.Only w w' [g]:=by
 have c2 : w.cell? ⟨g,2,none⟩ = some (.int .i64 f):=E9 hv 2;have q2:=C9 hv 2;have HV:=Lib.hid hv;have hne : (f == 0) = false:=by simpa using h0
 clear hv h0;by_cases hp : 0 < f
 ·have hp' : f > 0:=hp
  have HF:=Lib.hid (show X9 f = f - 1 by unfold X9;rw [if_pos hp])
  go_enter Tryz.func101,Tryz.ntmps101
  go_wp2
  go_ret
  exact ⟨rfl,Lib.hid (by rw [HF.out];exact N9 HV.out 2 (.int .i64 (f - 1))),Rep.Only.setCell w (by simp) _⟩
 ·have HF:=Lib.hid (show X9 f = f by unfold X9;rw [if_neg hp])
  go_enter Tryz.func101,Tryz.ntmps101
  go_wp2
  go_ret
  exact ⟨rfl,Lib.hid (by rw [HF.out];exact HV.out),Rep.Only.refl _ _⟩
theorem Ck9 {w : World} {base : Nat} {v v' : Value} {d : Disk} {f f' : List Nat} (h : Rep.OwnRows byR 22 w base v d.secs f) (h' : Rep.OwnRows wrR 84 w base v' d.cache f') (hn : (f ++ f').Nodup) :
 diskR.own w base [v,v',.int .i64 d.fuse,.bool d.down] d (f ++ f'):=
 ⟨f,f',⟨v,rfl,h⟩,⟨f',[],⟨v',rfl,h'⟩,⟨[],[],⟨rfl,rfl⟩,⟨rfl,rfl⟩,rfl,by simp⟩,by simp,by simpa using (List.nodup_append.1 hn).2.1⟩,by simp,hn⟩
def Bj9 (d : Disk) (n : Int) (b : List UInt8) : Prop:=Z9 d∧d.down = false∧Df9 d n∧b.length ≤ 160∧d.cache.length ≠ 30
noncomputable def U9 (d : Disk) (n : Int) (b : List UInt8) : Disk:=
 @ite _ (Bj9 d n b) (Classical.propDecidable _) (if d.fuse = 0 then ⟨d.secs,d.cache,-1,true⟩ else ⟨d.secs,d.cache ++ [⟨n,b⟩],X9 d.fuse,d.down⟩) d
theorem Ai9 {d : Disk} {n : Int} {b : List UInt8} (h : ¬ Bj9 d n b) : U9 d n b = d:=by unfold U9;exact @if_neg _ (Classical.propDecidable _) h _ _ _
theorem Dg9 {d : Disk} {n : Int} {b : List UInt8} (h : Bj9 d n b) (h0 : d.fuse = 0) : U9 d n b = ⟨d.secs,d.cache,-1,true⟩:=by
 unfold U9;rw [@if_pos _ (Classical.propDecidable _) h,if_pos h0]
theorem Aj9 {d : Disk} {n : Int} {b : List UInt8} (h : Bj9 d n b) (h0 : d.fuse ≠ 0) : U9 d n b = ⟨d.secs,d.cache ++ [⟨n,b⟩],X9 d.fuse,d.down⟩:=by
 unfold U9;rw [@if_pos _ (Classical.propDecidable _) h,if_neg h0]
theorem Ar9 {d : Disk} (h : Ag9 d) (n : Int) {b : List UInt8} (hb : b.length ≤ 1048576) : Ag9 (U9 d n b):=by
 by_cases hg : Bj9 d n b
 ·by_cases h0 : d.fuse = 0
  ·rw [Dg9 hg h0];exact h
  ·rw [Aj9 hg h0]
   refine ⟨h.1,h.2.1,by have:=hg.1.1.2.2;simp;omega,fun x hx => ?_⟩
   rw [List.mem_append] at hx;rcases hx with hx | hx
   ·exact h.2.2.2 x hx
   ·simp at hx;subst hx;exact hb
 ·rw [Ai9 hg];exact h
end Go.Proofs.YthpkdjflndiojaaGreatDoor
namespace Go.Proofs.YthpkdjflndiojaaGreatDoor
open Go.RowKit Go.Maps
set_option linter.unusedVariables false
theorem Nu9 (g : Nat) (vs vc vm : Value) (dn : Bool) (n : Int) (vb : Value) (w : World) (hv : w.heap[g]? = some (.cells #[vs,vc,.int .i64 0,.bool dn,vm] 111 (0,0))) :
 Calls Tryz.prog 76 #[.pointer (some ⟨g,0,none⟩),.int .i64 n,vb] w fun e w' => e = .returned (.tuple #[])∧Hid (w'.heap[g]? = some (.cells #[vs,vc,.int .i64 (-1),.bool true,vm] 111 (0,0)))∧Rep.Only w w' [g]:=by
 have HV:=Lib.hid hv;clear hv;go_enter Tryz.func76,Tryz.ntmps76
 go_wp2_with fail;refine (Lk9 g vs vc vm dn w HV.out).mono ?_;rintro e w1 ⟨rfl,vv,ho⟩;go_wp2_with fail;refine bodyPost_ret (results_none rfl _ _ _) rfl ⟨rfl,vv,ho⟩
set_option maxRecDepth 100000 in
theorem Ra9 (g mb m base B : Nat) (vs : Value) (A : Option Addr) (c : Nat) (cache : List Wr) (fc : List Nat) (f : Int) (dn : Bool) (n : Int) (Ab : Option Addr) (cb : Nat) (b : List UInt8) (cells : List Value) (idx : Int→Option Nat) (w : World)
 (hv : w.heap[g]? = some (.cells #[vs,.slice A cache.length c,.int .i64 f,.bool dn,.map (some mb)] 111 (0,0))) (hm : MapIs w mb m cells idx) (hm30 : m ≤ 1048576)
 (hown : Rep.OwnRows wrR 84 w base (.slice A cache.length c) cache fc) (hgc : g ∉ fc) (hmc : mb ∉ fc) (hgm : g ≠ mb) (hrb : Reads w B 1 Ab b.length (bys b)) (hB1 : B ≤ g) (hB2 : B ≤ base) (hB3 : B ≤ mb) (hbs : base ≤ w.heap.size)
 (h0 : f ≠ 0) (h1 : -1 ≤ f) (h2 : f ≤ 1000) (hfb : b.length ≤ 1048576) (hcl : cache.length ≤ 1048576) (hn : (Lit.int .i64 n).wf = true) :
 Calls Tryz.prog 76 #[.pointer (some ⟨g,0,none⟩),.int .i64 n,.slice Ab b.length cb] w fun e w' => ∃ A4 c4 fp4,e = .returned (.tuple #[])∧Hid (w'.heap[g]? = some (.cells #[vs,.slice A4 (cache.length + 1) c4,.int .i64 (X9 f),.bool dn,.map (some mb)] 111 (0,0))) ∧
  Rep.OwnRows wrR 84 w' base (.slice A4 (cache.length + 1) c4) (cache ++ [⟨n,b⟩]) fp4∧Hid (∀ a,a ∈ fp4→a ∈ fc ∨ w.heap.size ≤ a)∧Rep.Only w w' (g :: mb :: fc):=by
 obtain ⟨m0,hm0,hm1,hm2,hm3⟩:=info_parts Tryz.info42;have HV:=Lib.hid hv;have hgl : g < w.heap.size:=World.block_lt_of_cell? w ⟨g,0,none⟩ (E9 hv 0);have hml:=hm.lt;have hlc:=Lib.hid (fun a ha => hown.lt a ha)
 clear hv;go_enter Tryz.func76,Tryz.ntmps76
 go_wp2_with fail;refine (Oq9 g vs (.slice A cache.length c) (.map (some mb)) f dn w HV.out h0 h1 h2).mono ?_;rintro e w1 ⟨rfl,V1,ho⟩;have hz1:=ho.size;have hown1:=hown.kept (w':=w1) (fun a ha => ho.block a (hlc.out a ha).2 (by simp;rintro rfl;exact hgc ha))
 have hm1':=hm.of_block (w':=w1) (ho.block mb hml (by simp;omega))
 have hrb1 : Reads w1 B 1 Ab b.length (bys b):=hrb.keep fun p hp => World.cell?_of_block (ho.block p.block (by omega) (by simp;omega))
 have hO1 : Rep.Only w w1 (g :: mb :: fc):=ho.mono (by simp)
 clear ho hown hm hrb HV;go_wp2_with fail;refine (Fy9 Ab cb b w1 (hrb1.more (by omega)) hfb).mono ?_
 rintro e w2 ⟨A3,c3,rfl,hown3,hb3⟩;have hz2:=hb3.size;have V2:=Lib.hid ((hb3.block g (by omega)).trans V1.out)
 have hown2:=hown1.of_below hb3;have hm2':=hm1'.of_block (w':=w2) (hb3.block mb (by omega))
 have hO2 : Rep.Only w w2 (g :: mb :: fc):=hO1.trans ((Rep.only_of_below hb3).mono (by simp))
 clear hb3 hown1 hm1' hO1 V1;go_wp2_with fail;have ho:=Rep.only_alloc w2 (.cells #[.int .i64 n,.slice A3 b.length c3] 84);have hvw:=heap_alloc_new w2 (.cells #[.int .i64 n,.slice A3 b.length c3] 84);have hzA : w2.heap.size + 1 ≤ (w2.alloc (.cells #[.int .i64 n,.slice A3 b.length c3] 84)).heap.size:=by simp
 have hownA:=hown2.alloc (.cells #[.int .i64 n,.slice A3 b.length c3] 84);have hown3A : Owns (w2.alloc (.cells #[.int .i64 n,.slice A3 b.length c3] 84)) w1.heap.size 5 (.slice A3 b.length c3) b:=hown3.alloc _;generalize hgw : w2.alloc (.cells #[.int .i64 n,.slice A3 b.length c3] 84) = wa at ho hvw hzA hownA hown3A ⊢;clear hgw;have VA:=Lib.hid ((ho.block g (by omega) (by simp)).trans V2.out)
 have hmA:=hm2'.of_block (w':=wa) (ho.block mb (by omega) (by simp))
 have hOA : Rep.Only w wa (g :: mb :: fc):=hO2.trans (ho.mono (by simp))
 have hl3:=Lib.hid (fun a ha => hown3A.lt a ha)
 clear ho hown2 hm2' hO2 V2 hown3;have eC : wa.cell? ⟨g,1,none⟩ = some (.slice A cache.length c):=E9 VA.out 1;have eN : wa.cell? ⟨w2.heap.size,0,none⟩ = some (.int .i64 n):=E9 hvw 0;have eB : wa.cell? ⟨w2.heap.size,1,none⟩ = some (.slice A3 b.length c3):=E9 hvw 1;refine M9 12 [0,1,2,3,4,5,6] [7,8,9,10,11,12] (fun w' => w'.cell? ⟨g,1,none⟩ = some (.slice A cache.length c)∧w'.cell? ⟨w2.heap.size,0,none⟩ = some (.int .i64 n)∧w'.cell? ⟨w2.heap.size,1,none⟩ = some (.slice A3 b.length c3)) (by kernel_rfl) (by kernel_rfl) ⟨eC,eN,eB⟩ ?_
 iterate 7 (refine LexR.cons rfl ?_ (fun w' hw => ?_) ?_;rotate_left;focus (obtain ⟨e1,e2,e3⟩:=hw;go_simp;(try exact rfl)))
 refine LexR.nil (LexW.cons rfl ?_);try go_frame
 go_wp2_with fail;have hk4 : ∀ a,a < wa.heap.size→((wa.alloc (.cells #[.int .i64 n,.slice A3 b.length c3] 84)).drew).heap[a]? = wa.heap[a]?:=fun a ha => Below.heap_alloc wa _ a ha
 have hSa:=Lib.hid (show (wa.alloc (.cells #[.int .i64 n,.slice A3 b.length c3] 84)).cell? ⟨g,1,none⟩ = some (.slice A cache.length c)∧(wa.alloc (.cells #[.int .i64 n,.slice A3 b.length c3] 84)).cell? ⟨w2.heap.size,0,none⟩ = some (.int .i64 n)∧(wa.alloc (.cells #[.int .i64 n,.slice A3 b.length c3] 84)).cell? ⟨w2.heap.size,1,none⟩ = some (.slice A3 b.length c3) from
  ⟨(World.cell?_of_block (Below.heap_alloc wa _ g (by omega))).trans eC,(World.cell?_of_block (Below.heap_alloc wa _ w2.heap.size (by omega))).trans eN,(World.cell?_of_block (Below.heap_alloc wa _ w2.heap.size (by omega))).trans eB⟩)
 have hown4:=hownA.kept (w':=(wa.alloc (.cells #[.int .i64 n,.slice A3 b.length c3] 84)).drew) (fun a ha => hk4 a (by have:=(hlc.out a ha).2;omega))
 have hel : wrR.own ((wa.alloc (.cells #[.int .i64 n,.slice A3 b.length c3] 84)).drew) base [.int .i64 n,.slice A3 b.length c3] ⟨n,b⟩ ((Value.slice A3 b.length c3).ownBlock.toList):=Mg9 (x:=⟨n,b⟩) ((ownsRow_mono hown3A (by omega)).alloc _)
 have hnew : Reads ((wa.alloc (.cells #[.int .i64 n,.slice A3 b.length c3] 84)).drew) ((wa.alloc (.cells #[.int .i64 n,.slice A3 b.length c3] 84)).drew).heap.size 2 (some ⟨wa.heap.size,0,none⟩) 1 [.int .i64 n,.slice A3 b.length c3]:=T7 wa #[.int .i64 n,.slice A3 b.length c3] 2 1 84 (g:=wa.heap.size) rfl rfl (by simp [maxLen])
 have hzB : wa.heap.size + 1 ≤ ((wa.alloc (.cells #[.int .i64 n,.slice A3 b.length c3] 84)).drew).heap.size:=by simp
 have hOB : Rep.Only w ((wa.alloc (.cells #[.int .i64 n,.slice A3 b.length c3] 84)).drew) (g :: mb :: fc):=(hOA.trans ((Rep.only_alloc wa _).mono (by simp))).trans ((Rep.only_drew _).mono (by simp))
 refine ⟨(by first | exact hSa.out | exact fun _ => hSa.out),LexW.cons rfl ?_⟩
 try go_frame
 refine Rep.wpList_push _ rfl (.tmp 19) (.tmp 21) _ rfl wrR base 84 m0 _ 32 Tryz.underlying25 hm0 hm1 hm2 hm3 rfl (by decide) (.slice A cache.length c) cache fc rfl hown4 _ 1 _ ⟨n,b⟩ _ rfl hnew (Ln9 rfl rfl) hel (fun a ha ha' => by have h1:=(hl3.out a (by simpa using ha)).1;have h2:=(hlc.out a ha').2;omega) (by simp only [maxLen];omega) (by omega) (by omega) ?_
 intro A4 c4 w4 fp4 hown5 hg4 hf4 hv4;have hO4 : Rep.Only w w4 (g :: mb :: fc):=hOB.trans (Rep.Only.of_grown hg4 (fun a ha => by have:=(hv4 a ha).2;simp [this]))
 have hz4 : wa.heap.size + 1 ≤ w4.heap.size:=by have:=hg4.size;omega
 have hk5 : ∀ a,a < wa.heap.size→a ∉ fc→w4.heap[a]? = wa.heap[a]?:=fun a ha hn => (hg4.block a (by omega) (fun e => hn (hv4 a e.symm).2)).trans (hk4 a ha)
 have hwn : w2.heap.size ∉ fc:=fun h => by have:=(hlc.out _ h).2;omega
 have V4:=Lib.hid ((hk5 g (by omega) hgc).trans VA.out)
 have vw4:=(hk5 w2.heap.size (by omega) hwn).trans hvw
 have hm4:=hmA.of_block (w':=w4) (hk5 mb (by omega) hmc)
 have hfin : Hid (∀ a,a ∈ fp4→a ∈ fc ∨ w.heap.size ≤ a):=Lib.hid (fun a ha => by
  rcases hf4 a ha with h | h | h
  ·exact .inl h
  ·exact .inr (by have:=(hl3.out a (by simpa using h)).1;omega)
  ·exact .inr (by omega))
 have hS5:=Lib.hid (show w4.cell? ⟨g,1,none⟩ = some (.slice A cache.length c)∧w4.cell? ⟨w2.heap.size,0,none⟩ = some (.int .i64 n)∧w4.cell? ⟨w2.heap.size,1,none⟩ = some (.slice A3 b.length c3) from ⟨E9 V4.out 1,E9 vw4 0,E9 vw4 1⟩)
 have hlt5:=Lib.hid (fun a ha => hown5.lt a ha)
 have hg5 : g ∉ fp4:=fun h => by
  rcases hf4 g h with h | h | h
  ·exact hgc h
  ·have:=(hl3.out g (by simpa using h)).1;omega
  ·omega
 have hmb5 : mb ∉ fp4:=fun h => by
  rcases hf4 mb h with h | h | h
  ·exact hmc h
  ·have:=(hl3.out mb (by simpa using h)).1;omega
  ·omega
 clear hg4 hf4 hv4 hk4 hk5 hnew hel hSa hown4 hOA hOB hownA hmA VA;refine ⟨(by first | exact hS5.out | exact fun _ => hS5.out),LexW.cons rfl ?_⟩
 try go_frame
 go_wp2_with fail;refine ⟨(by first | exact hS5.out | exact fun _ => hS5.out),LexW.cons rfl ?_⟩
 try go_frame
 go_wp2_with fail;refine ⟨(by first | exact hS5.out | exact fun _ => hS5.out),LexW.cons rfl ?_⟩
 try go_frame
 go_wp2_with fail;refine ⟨(by first | exact hS5.out | exact fun _ => hS5.out),LexW.cons rfl ?_⟩
 have c2q:=hS5.out.1;have q2 : w4.frozen? ⟨g,1,none⟩ = false:=C9 V4.out 1;try go_frame
 go_wp2_with fail;refine ⟨fun h => absurd rfl h,LexW.nil ?_⟩
 clear c2q q2 hS5;have V5:=Lib.hid (N9 V4.out 1 (.slice A4 (cache.length + 1) c4));have hO5 : Rep.Only w (w4.setCell ⟨g,1,none⟩ (.slice A4 (cache.length + 1) c4)) (g :: mb :: fc):=hO4.trans (Rep.Only.setCell w4 (by simp) _)
 have hown6:=hown5.kept (w':=w4.setCell ⟨g,1,none⟩ (.slice A4 (cache.length + 1) c4)) (fun a ha => heap_setCell_other _ _ _ _ (fun e => hg5 ((show a = g from e) ▸ ha)))
 have hm6:=hm4.of_block (w':=w4.setCell ⟨g,1,none⟩ (.slice A4 (cache.length + 1) c4)) (heap_setCell_other _ _ _ _ (by simp;omega))
 have vw6:=(heap_setCell_other w4 ⟨g,1,none⟩ w2.heap.size (.slice A4 (cache.length + 1) c4) (by simp;omega)).trans vw4
 have hz6 : w4.heap.size ≤ (w4.setCell ⟨g,1,none⟩ (.slice A4 (cache.length + 1) c4)).heap.size:=by simp
 generalize hgw5 : w4.setCell ⟨g,1,none⟩ (.slice A4 (cache.length + 1) c4) = w5 at V5 hO5 hown6 hm6 vw6 hz6 ⊢;clear hgw5 hown5 hm4 vw4 V4 hO4;go_wp2_with fail;have eM : w5.cell? ⟨g,4,none⟩ = some (.map (some mb)):=E9 V5.out 4;have eV : w5.cell? ⟨w2.heap.size,1,none⟩ = some (.slice A3 b.length c3):=E9 vw6 1;obtain ⟨D,hoD,hD,hiD⟩:=hm6;clear hiD;refine M9 7 [0,1,2,3,4,5,6] [7] (fun w' => w'.cell? ⟨g,4,none⟩ = some (.map (some mb))∧w'.cell? ⟨w2.heap.size,1,none⟩ = some (.slice A3 b.length c3)) (by kernel_rfl) (by kernel_rfl) ⟨eM,eV⟩ ?_
 iterate 7 (refine LexR.cons rfl ?_ (fun w' hw => ?_) ?_;rotate_left;focus (obtain ⟨e1,e2⟩:=hw;go_simp;(try exact rfl)))
 refine LexR.nil (LexW.cons rfl ?_);go_frame
 refine Dd8 w5.drew rfl (.tmp 29) (.tmp 30) (.tmp 32) rfl mb m D rfl hoD.drew (by simp only [maxLen];omega) n (.slice A3 b.length c3) rfl rfl hn ?_
 intro w6 hown7 hturn;refine ⟨fun h => absurd rfl h,LexW.nil ?_⟩
 have hg6:=hturn.grown;have hO6 : Rep.Only w w6 (g :: mb :: fc):=(hO5.trans ((Rep.only_drew w5).mono (by simp))).trans (Rep.Only.of_grown hg6 (fun a ha => by injection ha with ha;simp [ha]))
 have hkk : ∀ a,a < w5.heap.size→a ≠ mb→w6.heap[a]? = w5.heap[a]?:=fun a ha hne => hg6.block a ha (fun e => hne (by injection e))
 have V6:=Lib.hid ((hkk g (by omega) hgm).trans V5.out)
 have hown8:=hown6.kept (w':=w6) (fun a ha => hkk a (hown6.lt a ha).2 (fun e => hmb5 (e ▸ ha)))
 clear hg6 hturn hkk;go_wp2_with fail;go_end0;exact ⟨rfl,A4,c4,V6,fp4,hown8,hfin,hO6⟩
end Go.Proofs.YthpkdjflndiojaaGreatDoor
