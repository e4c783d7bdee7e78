/- What the theorem needs, out of many texts. -/
import Derived.Test.YthpkdjflndiojaaGreatDoorShj4
import Derived.OrdersHeld
import Derived.Deep.RegionHeld3
import Derived.Tactics
import Derived.Test.YthpkdjflndiojaaGreatDoorShjS
import Derived.Lib.Join
set_option maxHeartbeats 20000000
namespace Go.Proofs.YthpkdjflndiojaaGreatDoor
set_option maxRecDepth 100000
set_option linter.unusedVariables false
section
variable {P : Program} {ops : Array Oper} {Q : Exit→Act→World→Prop} {md : Region.Mode} {S : World→Prop} {z : Nat}
def Cm9 (P : Program) (md : Region.Mode) (ops : Array Oper) (Q : Exit→Act→World→Prop) (S : World→Prop) (z : Nat) : Nat→Array Bool→Act→World→Prop
 | 0,listed,a,w => Region.ready md ops listed = []∧Q .normal a w
 | fuel + 1, listed, a, w =>
   (Region.ready md ops listed = []→Q .normal a w) ∧
   ∀ i ∈ Region.ready md ops listed,wpOp P ops Q i (fun a' w' => (i ≠ z→S w')∧Cm9 P md ops Q S z fuel (listed.setIfInBounds i true) a' w') a w
theorem Hj9 : ∀ (fuel : Nat) (listed : Array Bool) (a : Act) (w : World),Cm9 P md ops Q S z fuel listed a w→wpAny P md ops Q fuel listed a w
 | 0,_,_,_,h => h
 | fuel + 1,_,_,_,h => ⟨h.1,fun i hi => wpOp_mono (fun a' w' h' => Hj9 fuel _ a' w' h'.2) (h.2 i hi)⟩
theorem Sk9 {i : Nat} {oi : Oper} {v : Value} (hi : ops[i]? = some oi) (hsel : ∀ (j : Nat) (o : Oper) cs b,ops[j]? = some o→o.op ≠ .select cs b)
 (hQ : ∀ c a w,Q (.panic c) (a.put oi.dst v) w→Q (.panic c) a w) (hz : ∀ oz,ops[z]? = some oz→∃ e ∈ oz.after,Region.binds md e = true∧e.on = i) :
 ∀ (fuel : Nat) (listed : Array Bool) (a : Act) (w : World),
   (∀ j oj,ops[j]? = some oj→j ≠ i→listed.getD j true = false→(∀ e ∈ oj.after,Region.binds md e = true→e.on ≠ i)→oi.apart ops oj = true) →
   i ∈ Region.ready md ops listed→YieldsIf P ops S oi v a→S w →
   Cm9 P md ops Q S z fuel (listed.setIfInBounds i true) (a.put oi.dst v) w→Cm9 P md ops Q S z (fuel + 1) listed a w:=by
 intro fuel;induction fuel with
 | zero =>
   intro listed a w _ hr hy hS H;refine ⟨fun h => (by rw [h] at hr;cases hr),fun j hj => ?_⟩
   by_cases hji : j = i
   ·subst hji;exact hy.wpOp hi hS ⟨fun _ => hS,H⟩
   ·have:=ready_mono hj hji
    rw [H.1] at this;cases this
 | succ fuel ih =>
   intro listed a w hfree hr hy hS H;refine ⟨fun h => (by rw [h] at hr;cases hr),fun j hj => ?_⟩
   by_cases hji : j = i
   ·subst hji;exact hy.wpOp hi hS ⟨fun _ => hS,H⟩
   ·have h1:=H.2 j (ready_mono hj hji)
    obtain ⟨hjun,oj,hoj,hall⟩:=mem_ready.1 hj
    have hnot : ∀ e ∈ oj.after, Region.binds md e = true → e.on ≠ i := fun e he hb heq => by
       have h1:=hall e he hb;have h0:=(mem_ready.1 hr).1;rw [heq] at h1;rcases Nat.lt_or_ge i listed.size with h' | h'
       ·simp [h'] at h0 h1;rw [h0] at h1;cases h1
       ·simp [Array.getElem?_eq_none h'] at h1
    have hjz : j ≠ z := fun e => by
       subst e;obtain ⟨e,he,hb,hon⟩:=hz oj hoj;exact hnot e he hb hon
    have h2:=wpOp_putIf hoj (hfree j oj hoj hji hjun hnot) (fun cs b => hsel i oi cs b hi) (fun cs b => hsel j oj cs b hoj) hQ hy h1
    have hfree' : ∀ k ok, ops[k]? = some ok → k ≠ i → (listed.setIfInBounds j true).getD k true = false →
         (∀ e ∈ ok.after,Region.binds md e = true→e.on ≠ i)→oi.apart ops ok = true:=fun k ok hk hki hun hno => by
       refine hfree k ok hk hki ?_ hno;by_cases hjk : j = k
       ·subst hjk;exact hjun
       ·rw [getD_set_ne true hjk] at hun;exact hun
    refine wpOp_mono (fun a' w' h3 => ⟨fun _ => h3.2.1 hjz,ih (listed.setIfInBounds j true) a' w' hfree' (ready_mono hr (Ne.symm hji)) h3.1 (h3.2.1 hjz) ?_⟩) h2
    rw [Array.setIfInBounds_comm _ _ hji];exact h3.2.2
def Dk9 (md : Region.Mode) (ops : Array Oper) (z : Nat) : List Nat→Array Bool→Option (Array Bool)
 | [],L => some L
 | i :: r,L => if Region.free md ops L i && (Region.ready md ops L).contains i && ((ops[z]?).map (fun oz => oz.after.any fun e => Region.binds md e && e.on == i)).getD true && ((ops[i]?).map (fun o => o.guard.isNone)).getD false then Dk9 md ops z r (L.setIfInBounds i true) else none
def Fl9 (md : Region.Mode) (ops : Array Oper) (z : Nat) : List Nat→Array Bool→Bool
 | [],L => (Region.ready md ops L).isEmpty
 | i :: r,L => (Region.ready md ops L == [i]) && (i != z || r.isEmpty) && Fl9 md ops z r (L.setIfInBounds i true)
def Pi9 (ops : Array Oper) (z : Nat) (rs ws : List Nat) : Bool:=
 Region.noSelect ops && (rs.length + ws.length == ops.size) && match Dk9 .any ops z rs (Array.replicate ops.size false) with
    | some L => Fl9 .any ops z ws L
    | none => false
def LexR (P : Program) (ops : Array Oper) (S : World→Prop) : List Nat→(Act→Prop)→Act→Prop
 | [],K,a => K a
 | i :: r,K,a => ∃ o v,ops[i]? = some o∧(∀ w,S w→(execOp a.eval o).run P w = .ok (.value v) w)∧LexR P ops S r K (a.put o.dst v)
def LexW (P : Program) (ops : Array Oper) (Q : Exit→Act→World→Prop) (S : World→Prop) (z : Nat) : List Nat→Act→World→Prop
 | [],a,w => Q .normal a w
 | i :: r,a,w => ∃ o,ops[i]? = some o∧wpList P ops (Exit.then (fun a' w' => (i ≠ z→S w')∧LexW P ops Q S z r a' w') Q) [o] a w
theorem Oper.wp_post {o : Oper} {a : Act} {w : World} {K next : Act→World→Prop} (h : o.wp P a w K (Exit.then next Q)) : o.wp P a w K Q:=by
 unfold Oper.wp at *;generalize (execOp a.eval o).run P w = r at *;cases r with
 | ok n w' =>
   cases n <;> simp only [Oper.upon] at h ⊢ <;>
    first
       | exact h
       | exact (Calls.mono h (fun e w'' he => by (cases e <;> exact he)))
       | exact (Rows.mono h (fun _ _ he => he))
 | halt x w' => cases x <;> simp only [Oper.upon] at h ⊢ <;> exact h
theorem Do9 : ∀ (ws : List Nat) (L : Array Bool) (a : Act) (w : World),Fl9 md ops z ws L = true→LexW P ops Q S z ws a w→Cm9 P md ops Q S z ws.length L a w
 | [], L, a, w, hc, h => by
   simp only [Fl9,List.isEmpty_iff] at hc;exact ⟨hc,h⟩
 | i :: r, L, a, w, hc, h => by
   simp only [Fl9,Bool.and_eq_true,beq_iff_eq] at hc;obtain ⟨⟨hr,hz⟩,hc⟩:=hc;obtain ⟨o,ho,h⟩:=h;refine ⟨(fun h0 => by rw [hr] at h0;cases h0),fun j hj => ?_⟩
   rw [hr] at hj;obtain rfl : j = i:=by simpa using hj
   unfold wpOp;simp only [ho];unfold wpList at h;split at h
   ·rename_i hw
    simp only [hw,if_true];rcases h with h | ⟨h1,h2⟩
    ·refine .inl (Oper.wp_post (Oper.wp_mono (fun a' w' h3 => ?_) h))
     have h4 : (j ≠ z→S w')∧LexW P ops Q S z r a' w':=h3;exact ⟨h4.1,Do9 r _ a' w' hc h4.2⟩
    ·exact .inr ⟨h1,h2⟩
   ·rename_i hw
    simp only [hw];have h4 : (j ≠ z→S w)∧LexW P ops Q S z r (a.put o.dst undef) w:=h;exact ⟨h4.1,Do9 r _ _ w hc h4.2⟩
theorem Fp9 (hs : Region.noSelect ops = true) (hQ : ∀ c a d v w,Q (.panic c) (Act.put a d v) w→Q (.panic c) a w) : ∀ (rs : List Nat) (L L' : Array Bool) (fuel : Nat) (K : Act→Prop) (a : Act) (w : World),Dk9 md ops z rs L = some L'→S w→LexR P ops S rs K a →
 (∀ a',K a'→Cm9 P md ops Q S z fuel L' a' w)→Cm9 P md ops Q S z (rs.length + fuel) L a w
 | [], L, L', fuel, K, a, w, hc, hS, h, hk => by
   simp only [Dk9] at hc;injection hc with hc;subst hc;rw [List.length_nil,Nat.zero_add];exact hk a h
 | i :: r, L, L', fuel, K, a, w, hc, hS, h, hk => by
   simp only [Dk9] at hc;split at hc
   ·rename_i hb
    simp only [Bool.and_eq_true] at hb;obtain ⟨⟨⟨hf,hr⟩,hz⟩,hg⟩:=hb;obtain ⟨o,v,ho,hv,h⟩:=h;have ih:=Fp9 hs hQ r _ L' fuel K (a.put o.dst v) w hc hS h hk;have e : (i :: r).length + fuel = (r.length + fuel) + 1:=by simp only [List.length_cons];omega
    rw [e];have hgd : o.guard = none:=by simpa [ho] using hg
    refine Sk9 ho (Region.noSelect_spec hs) (fun c a w => hQ c a o.dst v w) (fun oz hoz => ?_) _ L a w (Region.free_spec ho hf) (by simpa using hr) (.inl ⟨by simp [Region.wanted,hgd],hv⟩) hS ih
    simp only [hoz,Option.map_some,Option.getD_some] at hz;obtain ⟨e,he,hb⟩:=Array.any_eq_true'.1 hz;simp only [Bool.and_eq_true,beq_iff_eq] at hb;exact ⟨e,he,hb.1,hb.2⟩
   ·cases hc
theorem Gp9 {id : Nat} {a : Act} {w : World} (z : Nat) (rs ws : List Nat) (S : World→Prop) (hm : P.follows .mixedOrders = true) (hc : Pi9 ops z rs ws = true) (hQ : ∀ c a d v w,Q (.panic c) (Act.put a d v) w→Q (.panic c) a w)
 (hS : S w.drew) (h : LexR P ops S rs (fun a' => LexW P ops Q S z ws a' w.drew) a) : (Code.region id ops true).wp P Q a w:=by
 simp only [Pi9,Bool.and_eq_true,beq_iff_eq] at hc;obtain ⟨⟨hs,hn⟩,hc⟩:=hc;split at hc
 ·rename_i L hL
  refine wp_region_any hm (Hj9 (S:=S) (z:=z) _ _ _ _ ?_);rw [← hn];rw [← hn] at hL;exact Fp9 hs hQ rs _ L ws.length _ a _ hL hS h fun a' ha => Do9 ws L a' _ hc ha
 ·cases hc
theorem M9 {id : Nat} {a : Act} {w : World} (z : Nat) (rs ws : List Nat) (S : World→Prop) (hm : P.follows .mixedOrders = true) (hc : Pi9 ops z rs ws = true)
 (hS : S w.drew) (h : LexR P ops S rs (fun a' => LexW P ops (NoPanic Q) S z ws a' w.drew) a) : (Code.region id ops true).wp P Q a w:=
 wp_region_noPanic (Gp9 z rs ws S hm hc (fun _ _ _ _ _ h => h) hS h)
theorem LexR.cons {i : Nat} {r : List Nat} {K : Act→Prop} {a : Act} {o : Oper} (ho : ops.toList[i]? = some o) (v : Value) (hv : ∀ w,S w→(execOp a.eval o).run P w = .ok (.value v) w) (h : LexR P ops S r K (a.put o.dst v)) : LexR P ops S (i :: r) K a:=⟨o,v,by simpa using ho,hv,h⟩
theorem LexR.nil {K : Act→Prop} {a : Act} (h : K a) : LexR P ops S [] K a:=h
theorem LexW.nil {a : Act} {w : World} (h : Q .normal a w) : LexW P ops (NoPanic Q) S z [] a w:=NoPanic.normal h
theorem LexW.cons {i : Nat} {r : List Nat} {a : Act} {w : World} {o : Oper} (ho : ops.toList[i]? = some o) (h : wpList P ops (Exit.then (fun a' w' => (i ≠ z→S w')∧LexW P ops Q S z r a' w') Q) [o] a w) : LexW P ops Q S z (i :: r) a w:=⟨o,by simpa using ho,h⟩
def doneL (L : Array Bool) : List Nat→Array Bool
 | [] => L
 | i :: r => doneL (L.setIfInBounds i true) r
theorem Jw9 : ∀ (rs : List Nat) (L L' : Array Bool),Dk9 md ops z rs L = some L'→L' = doneL L rs
 | [], L, L', h => by
   simp only [Dk9] at h;injection h with h;exact h.symm
 | i :: r, L, L', h => by
   simp only [Dk9] at h;split at h
   ·exact Jw9 r _ L' h
   ·cases h
theorem Ad9 {id : Nat} {a : Act} {w : World} (z : Nat) (S : World→Prop) (hm : P.follows .mixedOrders = true) (h : Cm9 P .any ops (NoPanic Q) S z ops.size (Array.replicate ops.size false) a w.drew) : (Code.region id ops true).wp P Q a w:=
 wp_region_noPanic (wp_region_any hm (Hj9 (S:=S) (z:=z) _ _ _ _ h))
theorem Y9 (rs : List Nat) {fuel : Nat} {L : Array Bool} {a : Act} {w : World} (hc : (Region.noSelect ops && (Dk9 .any ops z rs L).isSome) = true) (hS : S w)
 (h : LexR P ops S rs (fun a' => Cm9 P .any ops (NoPanic Q) S z fuel (doneL L rs) a' w) a) : Cm9 P .any ops (NoPanic Q) S z (rs.length + fuel) L a w:=by
 simp only [Bool.and_eq_true] at hc;rcases hL : Dk9 .any ops z rs L with _ | L'
 ·rw [hL] at hc;cases hc.2
 ·exact Fp9 hc.1 (fun _ _ _ _ _ h => h) rs L L' fuel _ a w hL hS h fun a' ha => by rw [Jw9 rs L L' hL];exact ha
theorem Ik9 {i : Nat} {fuel : Nat} {L : Array Bool} {a : Act} {w : World} (h : ∃ o,ops[i]? = some o∧wpList P ops (Exit.then (fun a' w' => (i ≠ z→S w')∧Cm9 P md ops Q S z fuel (L.setIfInBounds i true) a' w') Q) [o] a w) :
 wpOp P ops Q i (fun a' w' => (i ≠ z→S w')∧Cm9 P md ops Q S z fuel (L.setIfInBounds i true) a' w') a w:=by
 obtain ⟨o,ho,h⟩:=h;unfold wpOp;simp only [ho];unfold wpList at h;split at h
 ·rename_i hw
  simp only [hw,if_true];rcases h with h | ⟨h1,h2⟩
  ·exact .inl (Oper.wp_post (Oper.wp_mono (fun a' w' h3 => h3) h))
  ·exact .inr ⟨h1,h2⟩
 ·rename_i hw
  simp only [hw];exact h
theorem As9 {i j : Nat} {fuel : Nat} {L : Array Bool} {a : Act} {w : World} (hr : (Region.ready md ops L == [i,j]) = true)
 (h1 : ∃ o,ops[i]? = some o∧wpList P ops (Exit.then (fun a' w' => (i ≠ z→S w')∧Cm9 P md ops Q S z fuel (L.setIfInBounds i true) a' w') Q) [o] a w)
 (h2 : ∃ o,ops[j]? = some o∧wpList P ops (Exit.then (fun a' w' => (j ≠ z→S w')∧Cm9 P md ops Q S z fuel (L.setIfInBounds j true) a' w') Q) [o] a w) : Cm9 P md ops Q S z (fuel + 1) L a w:=by
 rw [beq_iff_eq] at hr;refine ⟨(fun h0 => by rw [hr] at h0;cases h0),fun k hk => ?_⟩
 rw [hr] at hk;simp only [List.mem_cons,List.not_mem_nil,or_false] at hk;rcases hk with rfl | rfl
 ·exact Ik9 h1
 ·exact Ik9 h2
theorem R9 {i : Nat} {fuel : Nat} {L : Array Bool} {a : Act} {w : World} (hr : (Region.ready md ops L == [i]) = true)
 (h1 : ∃ o,ops[i]? = some o∧wpList P ops (Exit.then (fun a' w' => (i ≠ z→S w')∧Cm9 P md ops Q S z fuel (L.setIfInBounds i true) a' w') Q) [o] a w) : Cm9 P md ops Q S z (fuel + 1) L a w:=by
 rw [beq_iff_eq] at hr;refine ⟨(fun h0 => by rw [hr] at h0;cases h0),fun k hk => ?_⟩
 rw [hr] at hk;simp only [List.mem_cons,List.not_mem_nil,or_false] at hk;subst hk;exact Ik9 h1
theorem F8 (ws : List Nat) {L : Array Bool} {a : Act} {w : World} (hc : Fl9 md ops z ws L = true) (h : LexW P ops Q S z ws a w) : Cm9 P md ops Q S z ws.length L a w:=Do9 ws L a w hc h
theorem K9 {i : Nat} {o : Oper} {K : Oper→Prop} (ho : ops.toList[i]? = some o) (h : K o) : ∃ o,ops[i]? = some o∧K o:=⟨o,by simpa using ho,h⟩
end
end Go.Proofs.YthpkdjflndiojaaGreatDoor
namespace Go.Proofs.YthpkdjflndiojaaGreatDoor
open Go.RowKit
set_option maxRecDepth 100000
set_option linter.unusedVariables false
theorem Rep.RowsAt.take {α : Type} {R : Rep α} {w : World} {B n k : Nat} {A : Option Addr} {xs : List α} (h : Rep.RowsAt R w B A n xs) (hk : k ≤ n) : Rep.RowsAt R w B A (xs.take k).length (xs.take k):=by
 obtain ⟨hl,cells,hr,he⟩:=h;have hkl : (xs.take k).length = k:=by rw [List.length_take];omega
 have hlen:=hr.1;have h1 : k * R.size ≤ n * R.size:=Nat.mul_le_mul_right _ hk;refine ⟨rfl,cells.take (k * R.size),⟨?_,?_⟩,?_⟩
 ·rw [hkl,List.length_take]
  omega
 ·intro hn
  rw [hkl] at hn;obtain ⟨ad,hA,hb,hc⟩:=hr.2 (by omega)
  refine ⟨ad,hA,hb,fun j u hu => hc j u ?_⟩
  rw [List.getElem?_take] at hu;split at hu
  ·exact hu
  ·cases hu
 ·intro i x hx
  have hi : i < k:=by have:=(List.getElem?_eq_some_iff.1 hx).1;omega
  rw [List.getElem?_take,if_pos hi] at hx;have h2:=he i x hx;have h3 : (i + 1) * R.size ≤ k * R.size:=Nat.mul_le_mul_right _ hi;rw [Nat.add_mul,Nat.one_mul] at h3;have : Rep.seg R.size i (cells.take (k * R.size)) = Rep.seg R.size i cells:=by
   apply List.ext_getElem?;intro j;by_cases hj : j < R.size
   ·rw [Rep.seg_get hj,Rep.seg_get hj,List.getElem?_take,if_pos (by omega)]
   ·rw [List.getElem?_eq_none (by unfold Rep.seg;rw [List.length_take];omega),List.getElem?_eq_none (by unfold Rep.seg;rw [List.length_take];omega)]
  rw [this];exact h2
theorem Dr8 (d : Db) (w : World) (hd : d.name.size ≤ 1048576) : Calls Tryz.prog 129 #[.agg (dbC d).toArray] w (Y8 w (dbB d)):=by
 obtain ⟨b0,h0⟩ : ∃ b,Eh9 d.name.data.toList = b:=⟨_,rfl⟩;obtain ⟨b1,h1⟩ : ∃ b,inI d.size 1 3 = b:=⟨_,rfl⟩;obtain ⟨b2,h2⟩ : ∃ b,inI d.queue 0 4 = b:=⟨_,rfl⟩;obtain ⟨b3,h3⟩ : ∃ b,inI d.wait 1 20 = b:=⟨_,rfl⟩;obtain ⟨b4,h4⟩ : ∃ b,inI d.idle 1 20 = b:=⟨_,rfl⟩;have HC:=Lib.hid (show dbB d = (b0 && b1 && b2 && b3 && b4) by unfold dbB;rw [h0,h1,h2,h3,h4])
 unfold dbC Y8;cases b0;rotate_left;cases b1;rotate_left;cases b2;rotate_left;cases b3;rotate_left;cases b4;all_goals
  go_enter Tryz.func129,Tryz.ntmps129
  go_wp2_with fail;refine (Db8 h0 _ hd).mono ?_;rintro e w2 ⟨rfl,hb2⟩;obtain ⟨hc,hf⟩:=F7 hb2;have hz : w.heap.size < w2.heap.size:=by have:=hb2.size;simp at this;omega
  go_wp2_with (first
   | (go_at_call 77;refine (L8 (by assumption) _).mono ?_;rintro e w' ⟨rfl,rfl⟩))
  go_ret
  exact ⟨by rw [HC.out];simp,((Below.refl _ _).alloc (Nat.le_refl _) _).trans (hb2.mono (by simp))⟩
theorem Xe9 {P : Program} {t e : TypeId} {i : TypeInfo} (ht : P.underlying t = some (.slice e)) (hi : P.info? e = some i)
 (b off n c k : Nat) (h2 : k ≤ c) (h3 : 0 < c) (w : World) :
 (Instr.slice t (.slice (some ⟨b,off,none⟩) n c) none (some (.int .i64 (k : Int))) none).run P w = .ok (.slice (some ⟨b,off,none⟩) k c) w:=by
 have a1 : (0 : Int) ≤ k:=by omega
 have a2 : (k : Int) ≤ c:=by omega
 have hz:=sizeOf_run (P:=P) (e:=e) w hi;simp [Instr.slice,run_underlying ht,Instr.sliceBounds,Instr.sliceBound,asIntOf,h2,hz,go_sem,Addr.add]
theorem As8 (w : World) (D : Nat) (a b c d e : Value) : Rep.Only w (((((w.setCell ⟨D,0,none⟩ a).setCell ⟨D,1,none⟩ b).setCell ⟨D,2,none⟩ c).setCell ⟨D,3,none⟩ d).setCell ⟨D,4,none⟩ e) [D]:=
 ((((Rep.Only.setCell w (by simp) _).trans (Rep.Only.setCell _ (by simp) _)).trans (Rep.Only.setCell _ (by simp) _)).trans (Rep.Only.setCell _ (by simp) _)).trans (Rep.Only.setCell _ (by simp) _)
set_option maxRecDepth 100000 in
theorem Yp9 (A : Option Addr) (c : Nat) (xs : List Db) (w : World) (h : Rep.RowsAt dbR w w.heap.size A xs.length xs) (hc : xs.length ≤ c) (hf : Jq9 xs) :
 Calls Tryz.prog 116 #[.slice A xs.length c] w (Y8 w (Bm9 xs)):=by
 have hn:=hf.1;have HF:=Lib.hid hf.2;obtain ⟨i0,hi0,_,_,_⟩:=info_parts Tryz.infoDb;have HI:=Lib.hid hi0;clear hf hi0;unfold Y8;obtain ⟨y0,hy0⟩ : ∃ y,inI (xs.length : Int) 1 3 = y:=⟨_,rfl⟩;cases y0
 ·have HE:=Lib.hid (show Bm9 xs = false from Mb9 fun h => by unfold inI at hy0;exact of_decide_eq_false hy0 (by omega))
  go_enter Tryz.func116,Tryz.ntmps116
  go_wp2_with (go_at_call 77;refine (L8 hy0 _).mono ?_;rintro e w' ⟨rfl,rfl⟩)
  go_ret
  exact ⟨by rw [HE.out];rfl,Below.refl _ _⟩
 ·have hlen : 1 ≤ xs.length∧xs.length ≤ 3:=by unfold inI at hy0;have:=of_decide_eq_true hy0;omega
  obtain ⟨l1,l2⟩:=hlen;go_enter Tryz.func116,Tryz.ntmps116
  go_wp2_with (go_at_call 77;refine (L8 hy0 _).mono ?_;rintro e w' ⟨rfl,rfl⟩)
  clear hy0;go_loopw [13] (fun i wr => ∃ k : Nat,k ≤ xs.length∧i = .int .i64 k∧Hid (ConfTo xs k)∧Below w.heap.size w wr) (fun i _ => xs.length - (intOf i).toNat)
  case atStart => exact ⟨0,by omega,rfl,Lib.hid (ConfTo.zero xs),Below.refl _ _⟩
  case round =>
   obtain ⟨k,hk,rfl,hto,hb⟩:=hrel;by_cases hlt : k < xs.length
   ·obtain ⟨b,off,x,rfl,hbl,hx,c0,c1,c2,c3,c4⟩:=Hx9 (h.keep fun p hp => hb.cell hp) hlt
    have HX:=Lib.hid hx;have hxs:=HF.out x (List.mem_of_getElem? hx);clear hx;have i1 : (0 : Int) ≤ (k : Int):=by omega
    have i2 : (k : Int) < (xs.length : Int):=by omega
    go_wp2_with fail;have hb1:=hb.alloc hb.size (.cells #[.string x.name,.int .i64 x.size,.int .i64 x.queue,.int .i64 x.wait,.int .i64 x.idle] 132);have hv:=heap_alloc_new wr (.cells #[.string x.name,.int .i64 x.size,.int .i64 x.queue,.int .i64 x.wait,.int .i64 x.idle] 132);have hs : wr.heap.size + 1 ≤ (wr.alloc (.cells #[.string x.name,.int .i64 x.size,.int .i64 x.queue,.int .i64 x.wait,.int .i64 x.idle] 132)).heap.size:=by simp
    generalize hgW : wr.alloc (.cells #[.string x.name,.int .i64 x.size,.int .i64 x.queue,.int .i64 x.wait,.int .i64 x.idle] 132) = W1 at hb1 hv hs ⊢;clear hgW c0 c1 c2 c3 c4 hb;have hD : wr.heap.size < W1.heap.size:=by omega
    clear hs;generalize wr.heap.size = D at hv hD ⊢;have S : All (fun w' => (Below w.heap.size w w'∧D < w'.heap.size)∧Hid (w'.heap[D]? = some (.cells #[.string x.name,.int .i64 x.size,.int .i64 x.queue,.int .i64 x.wait,.int .i64 x.idle] 132 (0,0)))) W1:=⟨⟨hb1,hD⟩,Lib.hid hv⟩
    clear hb1 hv hD;have hsl:=Xe9 (P:=Tryz.prog) Tryz.underlying114 HI.out b off xs.length c k (by omega) (by omega)
    have HT:=Lib.hid (h.take hk);have hkl : (xs.take k).length = k:=by rw [List.length_take];omega
    have HK:=Lib.hid hkl;obtain ⟨p,hp⟩ : ∃ p,Js9 (xs.take k) x.name = p:=⟨_,rfl⟩;have HP:=Lib.hid hp;clear hkl hp;refine Ad9 100 (fun w' => w'.cell? ⟨D,0,none⟩ = some (.string x.name)) (by kernel_rfl) ?_
    refine Y9 [0,1,2,3,4] (fuel:=7) (by kernel_rfl) (E9 S.out.2.out 0) ?_
    iterate 5 (refine LexR.cons rfl ?_ (fun w' hw => ?_) ?_;rotate_left;focus (go_simp;(try exact rfl));(try go_frame))
    refine LexR.nil ?_;clear hsl;refine As9 (i:=5) (j:=9) (by kernel_rfl) ?_ ?_
    ·refine K9 rfl ?_
     try go_frame
     go_wp2_with fail;have C:=Wp9 (some ⟨b,off,none⟩) c (xs.take k) x.name W1.drew ((HT.out.keep fun p hp => S.drew.out.1.1.cell hp).more S.drew.out.1.1.size) (by rw [HK.out];omega)
     rw [HK.out,HP.out] at C;refine C.mono ?_;clear C;rintro e W2 ⟨rfl,hb2⟩;replace S:=S.drew.later hb2;clear hb2;unfold dbC;go_wp2_with fail;refine ⟨fun _ => E9 S.out.2.out 0,?_⟩
     refine Y9 [6,7,8] (fuel:=3) (by kernel_rfl) (E9 S.out.2.out 0) ?_
     iterate 3 (refine LexR.cons rfl ?_ (fun w' hw => ?_) ?_;rotate_left;focus (go_simp;(try exact rfl));(try go_frame))
     refine LexR.nil ?_;refine F8 [9,10,11] (by kernel_rfl) (LexW.cons rfl ?_)
     have hzD:=S.out.1.2;have S3:=S.alloc (.cells #[.string ⟨#[]⟩,.int .i64 0,.int .i64 0,.int .i64 0,.int .i64 0] 132);try go_frame
     go_wp2_with fail;refine ⟨fun _ => E9 S3.out.2.out 0,LexW.cons rfl ?_⟩
     try go_frame
     go_wp2_with fail;have S4:=S.alloc (.cells #[.string p.1.name,.int .i64 p.1.size,.int .i64 p.1.queue,.int .i64 p.1.wait,.int .i64 p.1.idle] 132);generalize hgW : W2.alloc (.cells #[.string p.1.name,.int .i64 p.1.size,.int .i64 p.1.queue,.int .i64 p.1.wait,.int .i64 p.1.idle] 132) = W3 at S4 ⊢;clear hgW S S3;have S:=S4;clear S4;refine ⟨fun _ => E9 S.out.2.out 0,LexW.cons rfl ?_⟩
     try go_frame
     go_wp2_with fail;refine ⟨fun _ => E9 S.out.2.out 0,LexW.nil ?_⟩
     clear hzD;obtain ⟨d1,tw⟩:=p;cases tw;rotate_left
     ·have HE := Lib.hid (show Bm9 xs = false by
         obtain ⟨j,z,hz,hzn⟩:=Ry9 (xs:=xs.take k) (n:=x.name) (by rw [HP.out])
         have hj : j < k:=by have:=(List.getElem?_eq_some_iff.1 hz).1;rw [HK.out] at this;exact this
         rw [List.getElem?_take,if_pos hj] at hz;exact Fw9 HX.out hz hj hzn)
      go_wp2_with fail;go_ret
      exact ⟨by rw [HE.out];rfl,S.out.1.1⟩
     ·have HN:=Lib.hid (show ∀ j y,j < k→xs[j]? = some y→y.name ≠ x.name from fun j y hj hy => Kr9 (xs:=xs.take k) (n:=x.name) (by rw [HP.out]) j y (by rw [List.getElem?_take,if_pos hj];exact hy))
      have e0 : W3.cell? ⟨D,0,none⟩ = some (.string x.name):=E9 S.out.2.out 0;have e1 : W3.cell? ⟨D,1,none⟩ = some (.int .i64 x.size):=E9 S.out.2.out 1;have e2 : W3.cell? ⟨D,2,none⟩ = some (.int .i64 x.queue):=E9 S.out.2.out 2;have e3 : W3.cell? ⟨D,3,none⟩ = some (.int .i64 x.wait):=E9 S.out.2.out 3;have e4 : W3.cell? ⟨D,4,none⟩ = some (.int .i64 x.idle):=E9 S.out.2.out 4;have zD:=S.out.1.2;obtain ⟨y,hy⟩ : ∃ y,dbB x = y:=⟨_,rfl⟩;have HY:=Lib.hid hy;clear hy;go_wp2_with fail;refine (Dr8 x W3 hxs).mono ?_;rintro e W9 ⟨rfl,hb9⟩;rw [HY.out];replace S:=S.later hb9;clear e0 e1 e2 e3 e4 zD hb9;cases y
      ·have HE:=Lib.hid (Ja9 HX.out HY.out)
       go_wp2_with fail;go_ret
       exact ⟨by rw [HE.out];rfl,S.out.1.1⟩
      ·have HT2:=Lib.hid (hto.out.succ HX.out HY.out HN.out)
       go_wp2_with fail;go_roundw
       case rel => exact ⟨k + 1,by omega,by go_num,HT2,S.out.1.1⟩
       case measure => simp [intOf];omega
    ·refine K9 rfl ?_
     try go_frame
     go_wp2_with fail;have hzD:=S.out.1.2;have SA:=(S.alloc (.cells #[.string ⟨#[]⟩,.int .i64 0,.int .i64 0,.int .i64 0,.int .i64 0] 132)).drew;have hv : ((W1.alloc (.cells #[.string ⟨#[]⟩,.int .i64 0,.int .i64 0,.int .i64 0,.int .i64 0] 132)).drew).heap[W1.heap.size]? = some (.cells #[.string ⟨#[]⟩,.int .i64 0,.int .i64 0,.int .i64 0,.int .i64 0] 132 (0,0)):=heap_alloc_new W1 _;have hz : W1.heap.size < ((W1.alloc (.cells #[.string ⟨#[]⟩,.int .i64 0,.int .i64 0,.int .i64 0,.int .i64 0] 132)).drew).heap.size:=by simp
     generalize hgW : (W1.alloc (.cells #[.string ⟨#[]⟩,.int .i64 0,.int .i64 0,.int .i64 0,.int .i64 0] 132)).drew = Wa at SA hv hz ⊢;clear hgW;have hEw : w.heap.size ≤ W1.heap.size:=S.out.1.1.size;clear S;generalize W1.heap.size = E at hv hz hzD hEw ⊢;have S : All (fun w' => ((Below w.heap.size w w'∧D < w'.heap.size)∧Hid (w'.heap[D]? = some (.cells #[.string x.name,.int .i64 x.size,.int .i64 x.queue,.int .i64 x.wait,.int .i64 x.idle] 132 (0,0))))∧E < w'.heap.size∧Hid (w'.heap[E]? = some (.cells #[.string ⟨#[]⟩,.int .i64 0,.int .i64 0,.int .i64 0,.int .i64 0] 132 (0,0)))) Wa:=⟨SA.out,hz,Lib.hid hv⟩
     clear SA hv hz;refine ⟨fun _ => E9 S.out.1.2.out 0,?_⟩
     refine R9 (i:=5) (by kernel_rfl) ?_
     refine K9 rfl ?_;try go_frame
     go_wp2_with fail;have C:=Wp9 (some ⟨b,off,none⟩) c (xs.take k) x.name Wa ((HT.out.keep fun p hp => S.out.1.1.1.cell hp).more S.out.1.1.1.size) (by rw [HK.out];omega)
     rw [HK.out,HP.out] at C;refine C.mono ?_;clear C;rintro e W2 ⟨rfl,hb2⟩;replace S:=S.later hb2;clear hb2;unfold dbC;go_wp2_with fail;refine ⟨fun _ => E9 S.out.1.2.out 0,?_⟩
     refine Y9 [6,7,8] (fuel:=2) (by kernel_rfl) (E9 S.out.1.2.out 0) ?_
     iterate 3 (refine LexR.cons rfl ?_ (fun w' hw => ?_) ?_;rotate_left;focus (go_simp;(try exact rfl));(try go_frame))
     refine LexR.nil ?_;refine F8 [10,11] (by kernel_rfl) (LexW.cons rfl ?_)
     have q0 : W2.cell? ⟨E,0,none⟩ = some (.string ⟨#[]⟩):=E9 S.out.2.2.out 0;have q1 : W2.cell? ⟨E,1,none⟩ = some (.int .i64 0):=E9 S.out.2.2.out 1;have q2 : W2.cell? ⟨E,2,none⟩ = some (.int .i64 0):=E9 S.out.2.2.out 2;have q3 : W2.cell? ⟨E,3,none⟩ = some (.int .i64 0):=E9 S.out.2.2.out 3;have q4 : W2.cell? ⟨E,4,none⟩ = some (.int .i64 0):=E9 S.out.2.2.out 4;have f0:=C9 S.out.2.2.out 0;have f1:=C9 S.out.2.2.out 1;have f2:=C9 S.out.2.2.out 2;have f3:=C9 S.out.2.2.out 3;have f4:=C9 S.out.2.2.out 4;have zE:=S.out.2.1;try go_frame
     go_wp2_with fail;have oE:=As8 W2 E (.string p.1.name) (.int .i64 p.1.size) (.int .i64 p.1.queue) (.int .i64 p.1.wait) (.int .i64 p.1.idle);generalize hgW : ((((W2.setCell ⟨E,0,none⟩ (.string p.1.name)).setCell ⟨E,1,none⟩ (.int .i64 p.1.size)).setCell ⟨E,2,none⟩ (.int .i64 p.1.queue)).setCell ⟨E,3,none⟩ (.int .i64 p.1.wait)).setCell ⟨E,4,none⟩ (.int .i64 p.1.idle) = W3 at oE ⊢;clear hgW q0 q1 q2 q3 q4 f0 f1 f2 f3 f4;have S3 : All (fun w' => (Below w.heap.size w w'∧D < w'.heap.size)∧Hid (w'.heap[D]? = some (.cells #[.string x.name,.int .i64 x.size,.int .i64 x.queue,.int .i64 x.wait,.int .i64 x.idle] 132 (0,0)))) W3:=⟨⟨Rep.Only.below S.out.1.1.1 oE S.out.1.1.1.size (fun a ha => by simp at ha;omega),by have:=oE.size;omega⟩,Rep.var_only S.out.1.2 oE S.out.1.1.2 (by simp;omega)⟩
     clear S oE zE hEw;have S:=S3;clear S3;refine ⟨fun _ => E9 S.out.2.out 0,LexW.cons rfl ?_⟩
     try go_frame
     go_wp2_with fail;refine ⟨fun _ => E9 S.out.2.out 0,LexW.nil ?_⟩
     clear hzD;obtain ⟨d1,tw⟩:=p;cases tw;rotate_left
     ·have HE := Lib.hid (show Bm9 xs = false by
         obtain ⟨j,z,hz,hzn⟩:=Ry9 (xs:=xs.take k) (n:=x.name) (by rw [HP.out])
         have hj : j < k:=by have:=(List.getElem?_eq_some_iff.1 hz).1;rw [HK.out] at this;exact this
         rw [List.getElem?_take,if_pos hj] at hz;exact Fw9 HX.out hz hj hzn)
      go_wp2_with fail;go_ret
      exact ⟨by rw [HE.out];rfl,S.out.1.1⟩
     ·have HN:=Lib.hid (show ∀ j y,j < k→xs[j]? = some y→y.name ≠ x.name from fun j y hj hy => Kr9 (xs:=xs.take k) (n:=x.name) (by rw [HP.out]) j y (by rw [List.getElem?_take,if_pos hj];exact hy))
      have e0 : W3.cell? ⟨D,0,none⟩ = some (.string x.name):=E9 S.out.2.out 0;have e1 : W3.cell? ⟨D,1,none⟩ = some (.int .i64 x.size):=E9 S.out.2.out 1;have e2 : W3.cell? ⟨D,2,none⟩ = some (.int .i64 x.queue):=E9 S.out.2.out 2;have e3 : W3.cell? ⟨D,3,none⟩ = some (.int .i64 x.wait):=E9 S.out.2.out 3;have e4 : W3.cell? ⟨D,4,none⟩ = some (.int .i64 x.idle):=E9 S.out.2.out 4;have zD:=S.out.1.2;obtain ⟨y,hy⟩ : ∃ y,dbB x = y:=⟨_,rfl⟩;have HY:=Lib.hid hy;clear hy;go_wp2_with fail;refine (Dr8 x W3 hxs).mono ?_;rintro e W9 ⟨rfl,hb9⟩;rw [HY.out];replace S:=S.later hb9;clear e0 e1 e2 e3 e4 zD hb9;cases y
      ·have HE:=Lib.hid (Ja9 HX.out HY.out)
       go_wp2_with fail;go_ret
       exact ⟨by rw [HE.out];rfl,S.out.1.1⟩
      ·have HT2:=Lib.hid (hto.out.succ HX.out HY.out HN.out)
       go_wp2_with fail;go_roundw
       case rel => exact ⟨k + 1,by omega,by go_num,HT2,S.out.1.1⟩
       case measure => simp [intOf];omega
   ·have he : k = xs.length:=by omega
    subst he;have HE:=Lib.hid (Mx9 ⟨⟨l1,l2⟩,hto.out⟩);go_wp2
    go_ret
    exact ⟨by rw [HE.out];rfl,hb⟩
def dgt (m : Nat) : UInt8:=UInt8.ofNat (48 + m % 10)
def Ga9 (M m : Nat) (acc : List UInt8) : Prop:=if m = 0 then acc = Lib.decDigits M else Lib.decDigits m ++ acc = Lib.decDigits M
theorem Lo9 {M : Nat} (h : M ≠ 0) : Ga9 M M []:=by unfold Ga9;rw [if_neg h];simp
theorem Nh9 {M m : Nat} {acc : List UInt8} (hm : m ≠ 0) (h : Ga9 M m acc) : Ga9 M (m / 10) (dgt m :: acc):=by
 unfold Ga9 at *;rw [if_neg hm] at h;by_cases h10 : m < 10
 ·rw [if_pos (by omega),← h,Lib.decDigits_one h10,show dgt m = UInt8.ofNat (48 + m) by unfold dgt;rw [show m % 10 = m by omega]]
  rfl
 ·rw [if_neg (by omega),← h]
  conv => rhs;rw [Lib.decDigits]
  rw [dif_neg h10];simp [dgt]
theorem Ox9 {M m : Nat} {acc : List UInt8} (h : Ga9 M m acc) : acc.length ≤ (Lib.decDigits M).length:=by
 unfold Ga9 at h;split at h
 ·rw [h];exact Nat.le_refl _
 ·rw [← h];simp
theorem Oy9 {M : Nat} {acc : List UInt8} (h : Ga9 M 0 acc) : acc = Lib.decDigits M:=by unfold Ga9 at h;simpa using h
theorem Xo9 : ∀ (k u : Nat),1 ≤ k→u < 10 ^ k→Lib.nDigits u ≤ k:=by
 intro k;induction k with
 | zero => intro u h;omega
 | succ k ih =>
   intro u _ hu;rw [Lib.nDigits];split
   ·omega
   ·rename_i h10
    have hk : 1 ≤ k := by
       rcases Nat.eq_zero_or_pos k with h0 | h0
       ·subst h0;omega
       ·exact h0
    have:=ih (u / 10) hk (by rw [Nat.pow_succ] at hu;omega)
    omega
theorem Hw9 (M : Nat) (h : M ≤ 9223372036854775808) : (Lib.decDigits M).length ≤ 20:=by
 rw [Lib.decDigits_length];exact Xo9 20 M (by omega) (by omega)
theorem Lf9 (b : UInt8) (l : List UInt8) : Value.string ((⟨#[b]⟩ : ByteArray) ++ (⟨l.toArray⟩ : ByteArray)) = .string ⟨(b :: l).toArray⟩:=by
 rfl
theorem Ss9 {a b : Value} (h : a = b) : Ending.returned a = .returned b:=by rw [h]
theorem Dp8 (m : Nat) : (((dgt m).toNat : Nat) : Int) = 48 + (m : Int) % 10:=by
 unfold dgt;simp;omega
theorem Rf9 (w : World) (m : Nat) (e : TypeId) : Reads (w.alloc (.cells #[.int .u8 (48 + (m : Int) % 10)] e)) (w.alloc (.cells #[.int .u8 (48 + (m : Int) % 10)] e)).heap.size 1 (some ⟨w.heap.size,0,none⟩) 1 (bys [dgt m]):=by
 have:=Reads.of_own (World.ownsRow_lit (base:=0) (e:=e) (size:=1) w #[.int .u8 (48 + (m : Int) % 10)] 1 (Nat.zero_le _) (by simp [maxLen]) rfl)
 rw [show bys [dgt m] = [.int .u8 (48 + (m : Int) % 10)] by simp only [bys,List.map_cons,List.map_nil,Dp8]]
 exact this
set_option maxRecDepth 100000 in
theorem Tf9 (M : Nat) (hM : M ≠ 0) (hM1 : M ≤ 9223372036854775807) (w : World) :
 Calls Tryz.prog 106 #[.int .i64 M] w fun e w' => e = .returned (.string ⟨(Lib.decDigits M).toArray⟩)∧Below w.heap.size w w':=by
 have h0 : ((M : Int) == 0) = false:=by simp;omega
 go_enter Tryz.func106,Tryz.ntmps106
 go_wp2
 go_loopw [3,4] (fun s x wr => ∃ (m : Nat) (acc : List UInt8),m ≤ 9223372036854775807∧x = .int .i64 m∧s = .string ⟨acc.toArray⟩∧Ga9 M m acc∧Below w.heap.size w wr) (fun _ x _ => (intOf x).toNat)
 case atStart => exact ⟨M,[],hM1,rfl,rfl,Lo9 hM,Below.refl _ _⟩
 case round =>
  obtain ⟨m,acc,hm1,rfl,rfl,hinv,hb⟩:=hrel;have HI:=Lib.hid hinv;clear hinv;by_cases hm : m = 0
  ·subst hm
   have HE:=Lib.hid (Oy9 HI.out);have hz : ((0 : Int) != 0) = false:=by simp
   go_wp2
   go_ret
   exact ⟨Ss9 (by show Value.string ⟨acc.toArray⟩ = _;rw [HE.out]),hb⟩
  ·have hne : ((m : Int) != 0) = true:=by simp;omega
   have i1 : 0 ≤ (m : Int) % 10:=by omega
   have i2 : (m : Int) % 10 < 10:=by omega
   have hcv:=string_run (P:=Tryz.prog) (src:=22) (dst:=9) Tryz.underlying22 Tryz.underlying5 Tryz.underlying9 (c:=1) (Rf9 wr m 5);have hlen:=Ox9 HI.out;have hdl : (Lib.decDigits M).length ≤ 20:=Hw9 M (by omega)
   have hal : acc.length ≤ 20:=by omega
   clear hlen hdl;have HN:=Lib.hid (Nh9 hm HI.out);clear HI;go_wp2
   go_roundw
   case rel => exact ⟨m / 10,dgt m :: acc,by omega,by go_num,Lf9 _ _,HN.out,hb.alloc hb.size _⟩
   case measure => simp [intOf];omega
set_option maxRecDepth 100000 in
theorem Tg9 (M : Nat) (hM : M ≠ 0) (hM1 : M ≤ 9223372036854775808) (w : World) :
 Calls Tryz.prog 106 #[.int .i64 (-(M : Int))] w fun e w' => e = .returned (.string ⟨(45 :: Lib.decDigits M).toArray⟩)∧Below w.heap.size w w':=by
 have h0 : ((-(M : Int)) == 0) = false:=by simp;omega
 have hneg : -(M : Int) < 0:=by omega
 go_enter Tryz.func106,Tryz.ntmps106
 go_wp2
 go_loopw [3,4] (fun s x wr => ∃ (m : Nat) (acc : List UInt8),m ≤ 9223372036854775808∧x = .int .i64 (-(m : Int))∧s = .string ⟨acc.toArray⟩∧Ga9 M m acc∧Below w.heap.size w wr) (fun _ x _ => (intOf x).natAbs)
 case atStart => exact ⟨M,[],hM1,rfl,rfl,Lo9 hM,Below.refl _ _⟩
 case round =>
  obtain ⟨m,acc,hm1,rfl,rfl,hinv,hb⟩:=hrel;have HI:=Lib.hid hinv;clear hinv;have hlen:=Ox9 HI.out;have hdl : (Lib.decDigits M).length ≤ 20:=Hw9 M (by omega)
  have hal : acc.length ≤ 20:=by omega
  clear hlen hdl;by_cases hm : m = 0
  ·subst hm
   have HE:=Lib.hid (Oy9 HI.out);have hz : ((0 : Int) != 0) = false:=by simp
   go_wp2
   go_ret
   exact ⟨by rw [← HE.out];exact Ss9 (Lf9 _ _),hb⟩
  ·have hne : ((-(m : Int)) != 0) = true:=by simp;omega
   have i1 : 0 ≤ (m : Int) % 10:=by omega
   have i2 : (m : Int) % 10 < 10:=by omega
   have hcv:=string_run (P:=Tryz.prog) (src:=22) (dst:=9) Tryz.underlying22 Tryz.underlying5 Tryz.underlying9 (c:=1) (Rf9 wr m 5);have HN:=Lib.hid (Nh9 hm HI.out);have hmod : (-(m : Int)).tmod 10 = -((m : Int) % 10):=by rw [Int.neg_tmod,Int.tmod_eq_emod_of_nonneg (by omega)]
   have hdiv : (-(m : Int)).tdiv 10 = -((m : Int) / 10):=by rw [Int.neg_tdiv,Int.tdiv_eq_ediv_of_nonneg (by omega)]
   clear HI;by_cases hd0 : (m : Int) % 10 = 0
   ·rw [hd0,Int.add_zero] at hcv
    go_wp2
    go_roundw
    case rel => exact ⟨m / 10,dgt m :: acc,by omega,by go_num,Lf9 _ _,HN.out,hb.alloc hb.size _⟩
    case measure => simp [intOf];omega
   ·have hx : (-((m : Int) % 10)) < 0:=by omega
    go_wp2
    go_roundw
    case rel => exact ⟨m / 10,dgt m :: acc,by omega,by go_num,Lf9 _ _,HN.out,hb.alloc hb.size _⟩
    case measure => simp [intOf];omega
theorem Qx9 (w : World) :
 Calls Tryz.prog 106 #[.int .i64 0] w fun e w' => e = .returned (.string ⟨(Lib.decDigits 0).toArray⟩)∧Below w.heap.size w w':=by
 have h0 : ((0 : Int) == 0) = true:=by simp
 have HE:=Lib.hid (show Lib.decDigits 0 = [48] by rw [Lib.decDigits_one (by omega)];rfl)
 go_enter Tryz.func106,Tryz.ntmps106
 go_wp2
 go_ret
 exact ⟨Ss9 (by rw [HE.out];rfl),Below.refl _ _⟩
theorem Br9 (n : Int) (h0 : -9223372036854775808 ≤ n) (h1 : n ≤ 9223372036854775807) (w : World) :
 Calls Tryz.prog 106 #[.int .i64 n] w fun e w' => e = .returned (.string ⟨(Lib.itoa n).toArray⟩)∧Below w.heap.size w w':=by
 rcases Int.lt_trichotomy n 0 with h | h | h
 ·obtain ⟨M,rfl⟩ : ∃ M : Nat,n = -(M : Int):=⟨n.natAbs,by omega⟩
  rw [Lib.itoa_neg M (by omega)]
  exact Tg9 M (by omega) (by omega) w
 ·subst h
  rw [show Lib.itoa 0 = Lib.decDigits 0 from Lib.itoa_nonneg 0]
  exact Qx9 w
 ·obtain ⟨M,rfl⟩ : ∃ M : Nat,n = (M : Int):=⟨n.toNat,by omega⟩
  rw [Lib.itoa_nonneg];exact Tf9 M (by omega) (by omega) w
def Tab (w : World) : Prop := Lib.TabIs Tryz.prog w "internal/strconv.uint64pow10" .u64 Lib.pow10Tab
theorem gTab : Tryz.prog.globalNamed "internal/strconv.uint64pow10" = some 1 := by kernel_rfl
theorem Tab.lt {w : World} (h : Tab w) : 1 < w.heap.size:=by
 have:=h.cell gTab 0 (by rw [Lib.pow10Tab_length];omega)
 exact World.block_lt_of_cell? w _ this
theorem Tab.below {w w' : World} (h : Tab w) (hb : Below w.heap.size w w') : Tab w':=var?_below hb gTab h.lt h
theorem Tab.drewN {w : World} (h : Tab w) (n : Nat) : Tab (w.drewN n):=h.below (below_drewN (Below.refl _ _) n)
theorem Yv9 (w : World) (os : Array Obj) : Below w.heap.size w (Sort.grow w os):=
 ⟨rfl,rfl,rfl,by simp [Sort.grow],fun k hk => by
  show (w.heap ++ os)[k]? = w.heap[k]?
  rw [Array.getElem?_append,if_pos hk]⟩
theorem Ng9 (n : Int) (h0 : -9223372036854775808 ≤ n) (h1 : n ≤ 9223372036854775807) (w : World) (ht : Tab w) :
 Calls Tryz.prog 135 #[.int .i64 n] w fun e w' => e = .returned (.string ⟨(Lib.itoa n).toArray⟩)∧Below w.heap.size w w':=by
 have HT:=Lib.hid ht;clear ht;go_enter Tryz.func135,Tryz.ntmps135
 go_wp2_with fail;refine (Tryz.strconv_Itoa n h0 h1 w HT.out).mono ?_;rintro e w' ⟨rfl,k,os,hw⟩;have hb : Below w.heap.size w w':=by
  rw [hw];exact (below_drewN (Below.refl _ _) k).trans ((Yv9 (w.drewN k) os).mono (Nat.le_refl _))
 clear hw;go_wp2_with fail;go_ret
 exact ⟨rfl,hb⟩
instance Tab.keeps : Keeps Tab:=⟨fun h x => x.below h⟩
def dbL (d : Db) : List UInt8:=d.name.data.toList ++ [58] ++ Lib.itoa d.size ++ [47] ++ Lib.itoa d.queue ++ [47] ++ Lib.itoa d.wait ++ [47] ++ Lib.itoa d.idle
def SmallDb (d : Db) : Prop:=d.name.size ≤ 8∧(0 ≤ d.size∧d.size ≤ 20)∧(0 ≤ d.queue∧d.queue ≤ 20)∧(0 ≤ d.wait∧d.wait ≤ 20)∧(0 ≤ d.idle∧d.idle ≤ 20)
theorem Oj9 {d : Db} (h : dbB d = true) : SmallDb d:=by
 unfold dbB at h;simp only [Bool.and_eq_true] at h;obtain ⟨⟨⟨⟨h0,h1⟩,h2⟩,h3⟩,h4⟩:=h;unfold Eh9 at h0;simp only [Bool.and_eq_true] at h0;have g0:=of_decide_eq_true h0.1;have g1:=of_decide_eq_true h1;have g2:=of_decide_eq_true h2;have g3:=of_decide_eq_true h3;have g4:=of_decide_eq_true h4;have e : d.name.data.toList.length = d.name.size:=by simp
 exact ⟨by omega,by omega,by omega,by omega,by omega⟩
theorem Ht9 {n : Int} (h0 : 0 ≤ n) (h1 : n ≤ 20) : (Lib.itoa n).length ≤ 20:=by
 obtain ⟨m,rfl⟩:=Int.eq_ofNat_of_zero_le h0;rw [Lib.itoa_nonneg];exact Hw9 m (by omega)
theorem Bh8 {l : List (List UInt8)} (h : l ≠ []) (y s : List UInt8) : Lib.join (l ++ [y]) s = Lib.join l s ++ s ++ y:=by
 match l,h with
 | a :: r, _ =>
   rw [List.cons_append,Lib.join_cons,Lib.join_cons];simp [Lib.joinTail,List.append_assoc]
noncomputable def Fh9 (xs : List Db) : ByteArray:=if Bm9 xs = true then ⟨(Lib.join (xs.map dbL) [59]).toArray⟩ else ⟨#[]⟩
theorem Ab8 (l : List UInt8) : (⟨l.toArray⟩ : ByteArray).size = l.length:=by simp [ByteArray.size]
theorem Yw9 {a : ByteArray} {l : List UInt8} (h : a.data.toList = l) : a = ⟨l.toArray⟩:=by
 subst h;simp
theorem Gu9 (A : Option Addr) (c : Nat) (xs : List Db) (w : World) (h : Rep.RowsAt dbR w w.heap.size A xs.length xs) (hf : Jq9 xs) :
 Calls Tryz.prog 81 #[.slice A xs.length c] w fun e w' => e = .returned (.string (Fh9 xs))∧Below w.heap.size w w':=by
 obtain ⟨y,hy⟩ : ∃ y,Bm9 xs = y:=⟨_,rfl⟩;have HY:=Lib.hid hy;clear hy;have HF:=Lib.hid hf;have hn:=hf.1;clear hf;cases y
 ·have HT:=Lib.hid (show Fh9 xs = ⟨#[]⟩ by unfold Fh9;rw [HY.out];rfl)
  go_enter Tryz.func81,Tryz.ntmps81
  go_wp2
  go_loopw [3,4] (fun s i wr => s = .string ⟨#[]⟩∧i = .int .i64 (0 : Nat)∧wr = w) (fun _ _ _ => 0)
  case atStart => exact ⟨rfl,rfl,rfl⟩
  case round =>
   obtain ⟨rfl,rfl,rfl⟩:=hrel;by_cases hl : 0 < xs.length
   ·have i2 : (0 : Int) < (xs.length : Int):=by omega
    go_wp2_with fail;refine (Jb9 A c xs wr h HF.out).mono ?_;rintro e W1 ⟨rfl,hb⟩;rw [HY.out];go_wp2_with fail;go_ret
    exact ⟨by rw [HT.out];rfl,hb⟩
   ·have i2 : ¬ ((0 : Int) < (xs.length : Int)):=by omega
    go_wp2_with fail;go_ret
    exact ⟨by rw [HT.out];rfl,Below.refl _ _⟩
 ·have HT:=Lib.hid (show Fh9 xs = ⟨(Lib.join (xs.map dbL) [59]).toArray⟩ by unfold Fh9;rw [HY.out];rfl)
  have hg:=Ks9 HY.out;obtain ⟨⟨l1,l2⟩,hto⟩:=hg;have HO:=Lib.hid hto.1;clear hto;go_enter Tryz.func81,Tryz.ntmps81
  go_wp2
  go_loopw [3,4] (fun s i wr => ∃ (k : Nat) (T : ByteArray),k ≤ xs.length∧i = .int .i64 k∧s = .string T∧T.size ≤ 100 * k∧Hid (T.data.toList = Lib.join ((xs.take k).map dbL) [59])∧All (fun w' => Below w.heap.size w w') wr) (fun _ i _ => xs.length - (intOf i).toNat)
  case atStart => exact ⟨0,⟨#[]⟩,by omega,rfl,rfl,Nat.zero_le _,Lib.hid rfl,⟨Below.refl _ _⟩⟩
  case round =>
   obtain ⟨k,T,hk,rfl,rfl,hT,hTL,S0⟩:=hrel;by_cases hlt : k < xs.length
   ·have i2 : (k : Int) < (xs.length : Int):=by omega
    have i1 : (0 : Int) ≤ (k : Int):=by omega
    go_wp2_with fail;refine (Jb9 A c xs wr ((h.keep fun p hp => S0.out.cell hp).more S0.out.size) HF.out).mono ?_
    rintro e W1 ⟨rfl,hb⟩;rw [HY.out];replace S0:=S0.later hb;clear hb;obtain ⟨b,off,x,rfl,hbl,hx,c0,c1,c2,c3,c4⟩:=Hx9 (h.keep fun p hp => S0.out.cell hp) hlt
    have hdx:=HO.out k x hlt hx;obtain ⟨s0,⟨s1,s1'⟩,⟨s2,s2'⟩,⟨s3,s3'⟩,⟨s4,s4'⟩⟩:=Oj9 hdx;have n1:=Ht9 s1 s1';have n2:=Ht9 s2 s2';have n3:=Ht9 s3 s3';have n4:=Ht9 s4 s4';have S : All (fun w' => Below w.heap.size w w'∧w'.cell? ⟨b,off + k * 5,none⟩ = some (.string x.name)∧w'.cell? ⟨b,off + k * 5 + 1,none⟩ = some (.int .i64 x.size)∧w'.cell? ⟨b,off + k * 5 + 2,none⟩ = some (.int .i64 x.queue)∧w'.cell? ⟨b,off + k * 5 + 3,none⟩ = some (.int .i64 x.wait)∧w'.cell? ⟨b,off + k * 5 + 4,none⟩ = some (.int .i64 x.idle)) W1:=⟨S0.out,c0,c1,c2,c3,c4⟩
    by_cases h0 : k = 0
    ·have hk0 : ¬ (0 < (k : Int)):=by omega
     have HJ := Lib.hid (show Lib.join ((xs.take (k + 1)).map dbL) [59] = T.data.toList ++ dbL x by
        rw [Rep.take_get hx,hTL.out,h0];simp [Lib.join_one,Lib.join_nil])
     clear h0 hx hdx c0 c1 c2 c3 c4 S0;go_wp2_with fail;refine Ad9 100 (fun w' => w'.cell? ⟨b,off + k * 5,none⟩ = some (.string x.name)∧w'.cell? ⟨b,off + k * 5 + 1,none⟩ = some (.int .i64 x.size)∧w'.cell? ⟨b,off + k * 5 + 2,none⟩ = some (.int .i64 x.queue)∧w'.cell? ⟨b,off + k * 5 + 3,none⟩ = some (.int .i64 x.wait)∧w'.cell? ⟨b,off + k * 5 + 4,none⟩ = some (.int .i64 x.idle)) (by kernel_rfl) ?_
     refine Y9 [0,1,2,3,4,5,6,7,8,9,10,11,12,16,17,18,19,20,24,25,26,27,28,32,33,34,35,36] (fuel:=12) (by kernel_rfl) S.out.2 ?_
     iterate 28 (refine LexR.cons rfl ?_ (fun w' hw => ?_) ?_;rotate_left;focus (obtain ⟨e1,e2,e3,e4,e5⟩:=hw;go_simp;(try (rw [if_neg (by (try simp);omega)]));(try exact rfl));(try go_frame))
     refine LexR.nil ?_;replace S:=S.drew;refine R9 (i:=13) (by kernel_rfl) ?_
     refine K9 rfl ?_;try go_frame
     go_wp2_with fail;refine (Br9 _ (by omega) (by omega) _).mono ?_
     rintro e W13 ⟨rfl,hb⟩;replace S:=S.later hb;clear hb;go_wp2_with fail;refine ⟨fun _ => S.out.2,?_⟩
     refine Y9 [14,15] (fuel:=9) (by kernel_rfl) S.out.2 ?_
     iterate 2 (refine LexR.cons rfl ?_ (fun w' hw => ?_) ?_;rotate_left;focus (obtain ⟨e1,e2,e3,e4,e5⟩:=hw;go_simp;(try (rw [if_neg (by (try simp);omega)]));(try exact rfl));(try go_frame))
     refine LexR.nil ?_;refine R9 (i:=21) (by kernel_rfl) ?_
     refine K9 rfl ?_;try go_frame
     go_wp2_with fail;refine (Br9 _ (by omega) (by omega) _).mono ?_
     rintro e W21 ⟨rfl,hb⟩;replace S:=S.later hb;clear hb;go_wp2_with fail;refine ⟨fun _ => S.out.2,?_⟩
     refine Y9 [22,23] (fuel:=6) (by kernel_rfl) S.out.2 ?_
     iterate 2 (refine LexR.cons rfl ?_ (fun w' hw => ?_) ?_;rotate_left;focus (obtain ⟨e1,e2,e3,e4,e5⟩:=hw;go_simp;(try (rw [if_neg (by (try simp);omega)]));(try exact rfl));(try go_frame))
     refine LexR.nil ?_;refine R9 (i:=29) (by kernel_rfl) ?_
     refine K9 rfl ?_;try go_frame
     go_wp2_with fail;refine (Br9 _ (by omega) (by omega) _).mono ?_
     rintro e W29 ⟨rfl,hb⟩;replace S:=S.later hb;clear hb;go_wp2_with fail;refine ⟨fun _ => S.out.2,?_⟩
     refine Y9 [30,31] (fuel:=3) (by kernel_rfl) S.out.2 ?_
     iterate 2 (refine LexR.cons rfl ?_ (fun w' hw => ?_) ?_;rotate_left;focus (obtain ⟨e1,e2,e3,e4,e5⟩:=hw;go_simp;(try (rw [if_neg (by (try simp);omega)]));(try exact rfl));(try go_frame))
     refine LexR.nil ?_;refine R9 (i:=37) (by kernel_rfl) ?_
     refine K9 rfl ?_;try go_frame
     go_wp2_with fail;refine (Br9 _ (by omega) (by omega) _).mono ?_
     rintro e W37 ⟨rfl,hb⟩;replace S:=S.later hb;clear hb;go_wp2_with fail;refine ⟨fun _ => S.out.2,?_⟩
     refine Y9 [38] (fuel:=1) (by kernel_rfl) S.out.2 ?_
     iterate 1 (refine LexR.cons rfl ?_ (fun w' hw => ?_) ?_;rotate_left;focus (obtain ⟨e1,e2,e3,e4,e5⟩:=hw;go_simp;(try (rw [if_neg (by (try simp);omega)]));(try exact rfl));(try go_frame))
     refine LexR.nil ?_;refine F8 [39] (by kernel_rfl) (LexW.cons rfl ?_)
     try go_frame
     go_wp2_with fail;refine ⟨fun _ => S.out.2,LexW.nil ?_⟩
     go_wp2_with fail;go_roundw
     case rel => exact ⟨k + 1,_,by omega,by go_num,rfl,(by simp only [ByteArray.size_append,Ab8,List.length_cons,List.length_nil];omega),Lib.hid (by rw [HJ.out];simp [dbL]),⟨S.out.1⟩⟩
     case measure => simp [intOf];omega
    ·have hk0 : 0 < (k : Int):=by omega
     have HJ := Lib.hid (show Lib.join ((xs.take (k + 1)).map dbL) [59] = T.data.toList ++ [59] ++ dbL x by
        rw [Rep.take_get hx,List.map_append,hTL.out];exact Bh8 (by intro e;have h9:=congrArg List.length e;rw [List.length_map,List.length_take,List.length_nil] at h9;omega) _ _)
     clear hx hdx c0 c1 c2 c3 c4 S0;go_wp2_with fail;refine Ad9 100 (fun w' => w'.cell? ⟨b,off + k * 5,none⟩ = some (.string x.name)∧w'.cell? ⟨b,off + k * 5 + 1,none⟩ = some (.int .i64 x.size)∧w'.cell? ⟨b,off + k * 5 + 2,none⟩ = some (.int .i64 x.queue)∧w'.cell? ⟨b,off + k * 5 + 3,none⟩ = some (.int .i64 x.wait)∧w'.cell? ⟨b,off + k * 5 + 4,none⟩ = some (.int .i64 x.idle)) (by kernel_rfl) ?_
     refine Y9 [0,1,2,3,4,5,6,7,8,9,10,11,12,16,17,18,19,20,24,25,26,27,28,32,33,34,35,36] (fuel:=12) (by kernel_rfl) S.out.2 ?_
     iterate 28 (refine LexR.cons rfl ?_ (fun w' hw => ?_) ?_;rotate_left;focus (obtain ⟨e1,e2,e3,e4,e5⟩:=hw;go_simp;(try (rw [if_neg (by (try simp);omega)]));(try exact rfl));(try go_frame))
     refine LexR.nil ?_;replace S:=S.drew;refine R9 (i:=13) (by kernel_rfl) ?_
     refine K9 rfl ?_;try go_frame
     go_wp2_with fail;refine (Br9 _ (by omega) (by omega) _).mono ?_
     rintro e W13 ⟨rfl,hb⟩;replace S:=S.later hb;clear hb;go_wp2_with fail;refine ⟨fun _ => S.out.2,?_⟩
     refine Y9 [14,15] (fuel:=9) (by kernel_rfl) S.out.2 ?_
     iterate 2 (refine LexR.cons rfl ?_ (fun w' hw => ?_) ?_;rotate_left;focus (obtain ⟨e1,e2,e3,e4,e5⟩:=hw;go_simp;(try (rw [if_neg (by (try simp);omega)]));(try exact rfl));(try go_frame))
     refine LexR.nil ?_;refine R9 (i:=21) (by kernel_rfl) ?_
     refine K9 rfl ?_;try go_frame
     go_wp2_with fail;refine (Br9 _ (by omega) (by omega) _).mono ?_
     rintro e W21 ⟨rfl,hb⟩;replace S:=S.later hb;clear hb;go_wp2_with fail;refine ⟨fun _ => S.out.2,?_⟩
     refine Y9 [22,23] (fuel:=6) (by kernel_rfl) S.out.2 ?_
     iterate 2 (refine LexR.cons rfl ?_ (fun w' hw => ?_) ?_;rotate_left;focus (obtain ⟨e1,e2,e3,e4,e5⟩:=hw;go_simp;(try (rw [if_neg (by (try simp);omega)]));(try exact rfl));(try go_frame))
     refine LexR.nil ?_;refine R9 (i:=29) (by kernel_rfl) ?_
     refine K9 rfl ?_;try go_frame
     go_wp2_with fail;refine (Br9 _ (by omega) (by omega) _).mono ?_
     rintro e W29 ⟨rfl,hb⟩;replace S:=S.later hb;clear hb;go_wp2_with fail;refine ⟨fun _ => S.out.2,?_⟩
     refine Y9 [30,31] (fuel:=3) (by kernel_rfl) S.out.2 ?_
     iterate 2 (refine LexR.cons rfl ?_ (fun w' hw => ?_) ?_;rotate_left;focus (obtain ⟨e1,e2,e3,e4,e5⟩:=hw;go_simp;(try (rw [if_neg (by (try simp);omega)]));(try exact rfl));(try go_frame))
     refine LexR.nil ?_;refine R9 (i:=37) (by kernel_rfl) ?_
     refine K9 rfl ?_;try go_frame
     go_wp2_with fail;refine (Br9 _ (by omega) (by omega) _).mono ?_
     rintro e W37 ⟨rfl,hb⟩;replace S:=S.later hb;clear hb;go_wp2_with fail;refine ⟨fun _ => S.out.2,?_⟩
     refine Y9 [38] (fuel:=1) (by kernel_rfl) S.out.2 ?_
     iterate 1 (refine LexR.cons rfl ?_ (fun w' hw => ?_) ?_;rotate_left;focus (obtain ⟨e1,e2,e3,e4,e5⟩:=hw;go_simp;(try (rw [if_neg (by (try simp);omega)]));(try exact rfl));(try go_frame))
     refine LexR.nil ?_;refine F8 [39] (by kernel_rfl) (LexW.cons rfl ?_)
     try go_frame
     go_wp2_with fail;refine ⟨fun _ => S.out.2,LexW.nil ?_⟩
     go_wp2_with fail;go_roundw
     case rel => exact ⟨k + 1,_,by omega,by go_num,rfl,(by simp only [ByteArray.size_append,Ab8,List.length_cons,List.length_nil];omega),Lib.hid (by rw [HJ.out];simp [dbL]),⟨S.out.1⟩⟩
     case measure => simp [intOf];omega
   ·have he : k = xs.length:=by omega
    subst he;have hL:=hTL.out;rw [List.take_length] at hL;have HE:=Lib.hid (show T = Fh9 xs by rw [HT.out];exact Yw9 hL)
    clear hL;have i2 : ¬ ((xs.length : Int) < (xs.length : Int)):=by omega
    go_wp2_with fail;go_ret
    exact ⟨by rw [← HE.out];rfl,S0.out⟩
theorem Tryz.infoStr : (Tryz.prog.info? 9).map (fun i => (i.zero,i.size,i.bytes)) = some (some (.string ⟨#[]⟩),1,16):=by kernel_rfl
def stR : Rep ByteArray:=strR Vk9
theorem Fj9 {w : World} {B b off n : Nat} {ts : List ByteArray} (h : Rep.RowsAt stR w B (some ⟨b,off,none⟩) n ts) : ∀ (j : Nat) (x : ByteArray),ts[j]? = some x→w.cell? ⟨b,off + j,none⟩ = some (.string x)∧b < B:=by
 intro j x hx;have hl:=h.1;have hj : j < n:=by have:=(List.getElem?_eq_some_iff.1 hx).1;omega
 obtain ⟨b',off',cs,y,hA,hb,hy,hat,hcell⟩:=h.elem hj (show 0 < 1 by omega)
 injection hA with hA;injection hA with e1 e2 _;subst e1 e2;rw [hx] at hy;injection hy with hy;subst hy;have hat' : cs = [.string x]:=hat;subst hat';have h2:=hcell 0 _ rfl;have e : stR.size = 1:=rfl;rw [e,Nat.mul_one,Nat.add_zero] at h2;exact ⟨h2,hb⟩
end Go.Proofs.YthpkdjflndiojaaGreatDoor
