/- What the theorem needs, out of many texts. -/
import Derived.Test.YthpkdjflndiojaaGreatDoorShj6
import Derived.Lib.OthersKept
set_option maxHeartbeats 20000000
namespace Go.Proofs.YthpkdjflndiojaaGreatDoor
open Go.RowKit
set_option maxRecDepth 100000
set_option linter.unusedVariables false
theorem St9 {x y : Int} (h : x = y) : Ending.returned (.int .i32 x) = .returned (.int .i32 y):=by rw [h]
theorem Pf9 (C : Nat) (A : Option Addr) (n c : Nat) (w : World) (hc : w.cell? ⟨C,1,none⟩ = some (.slice A n c)) :
 Calls Tryz.prog 122 #[.pointer (some ⟨C,0,none⟩)] w fun e w' => e = .returned (.int .i32 ((Cn9 n).toNat : Nat))∧w' = w:=by
 by_cases h0 : n = 0
 ·have e1 : ((n : Int) == (0 : Int)) = true:=by simp;omega
  have HM:=Lib.hid (show ((Cn9 n).toNat : Int) = 58 by rw [h0];rfl)
  clear h0;go_enter Tryz.func122,Tryz.ntmps122
  go_wp2
  go_ret
  exact ⟨St9 HM.out.symm,rfl⟩
 ·have e1 : ((n : Int) == (0 : Int)) = false:=by simp;omega
  by_cases h4 : n = 4
  ·have e2 : ((n : Int) == (4 : Int)) = true:=by simp;omega
   have HM:=Lib.hid (show ((Cn9 n).toNat : Int) = 59 by rw [h4];rfl)
   clear h4;go_enter Tryz.func122,Tryz.ntmps122
   go_wp2
   go_ret
   exact ⟨St9 HM.out.symm,rfl⟩
  ·have e2 : ((n : Int) == (4 : Int)) = false:=by simp;omega
   have HM:=Lib.hid (show ((Cn9 n).toNat : Int) = 47 by unfold Cn9;rw [if_neg h0,if_neg h4];rfl)
   go_enter Tryz.func122,Tryz.ntmps122
   go_wp2
   go_ret
   exact ⟨St9 HM.out.symm,rfl⟩
def Cz9 (ps : List ByteArray) (i : Nat) : Int:=R8 (bl (gs ps (i + 1))) 65535
def dbTo (ps : List ByteArray) (j : Nat) : Array Value:=
 #[.string (gs ps 0),.int .i64 (if 0 < j then Cz9 ps 0 else 0),.int .i64 (if 1 < j then Cz9 ps 1 else 0),.int .i64 (if 2 < j then Cz9 ps 2 else 0),.int .i64 (if 3 < j then Cz9 ps 3 else 0)]
theorem Dq8 (ps : List ByteArray) {j : Nat} (hj : j < 4) : (dbTo ps j).setIfInBounds (1 + j) (.int .i64 (Cz9 ps j)) = dbTo ps (j + 1):=by
 rcases (by omega : j = 0 ∨ j = 1 ∨ j = 2 ∨ j = 3) with rfl | rfl | rfl | rfl <;> simp [dbTo]
theorem dbTo_at (ps : List ByteArray) {j : Nat} (hj : j < 4) : ∃ u,(dbTo ps j)[1 + j]? = some u:=by
 rcases (by omega : j = 0 ∨ j = 1 ∨ j = 2 ∨ j = 3) with rfl | rfl | rfl | rfl <;> exact ⟨_,rfl⟩
def ptrs (D : Nat) : Array Value:=#[.pointer (some ⟨D,1,none⟩),.pointer (some ⟨D,2,none⟩),.pointer (some ⟨D,3,none⟩),.pointer (some ⟨D,4,none⟩)]
theorem ptrs_at (D : Nat) {j : Nat} (hj : j < 4) : (ptrs D)[j]? = some (.pointer (some ⟨D,1 + j,none⟩)):=by
 rcases (by omega : j = 0 ∨ j = 1 ∨ j = 2 ∨ j = 3) with rfl | rfl | rfl | rfl <;> rfl
def dbI (ps : List ByteArray) : Db:=⟨gs ps 0,Cz9 ps 0,Cz9 ps 1,Cz9 ps 2,Cz9 ps 3⟩
theorem Bu8 {ps : List ByteArray} (h5 : ps.length = 5) {j : Nat} (hj : j < 4) (hb : Bc9 (bl (gs ps (j + 1))) 65535 = false) : Fg9 (ps.map bl) = none:=by
 rcases ps with _ | ⟨p0,_ | ⟨p1,_ | ⟨p2,_ | ⟨p3,_ | ⟨p4,_ | ⟨p5,ps⟩⟩⟩⟩⟩⟩ <;> try (simp at h5;done)
 exact Zp9 (f:=fun i => bl (gs [p0,p1,p2,p3,p4] (i + 1))) hj hb
theorem Yk9 {ps : List ByteArray} (h5 : ps.length = 5) (ho : ∀ j,j < 4→Bc9 (bl (gs ps (j + 1))) 65535 = true) : Fg9 (ps.map bl) = some (dbI ps):=by
 rcases ps with _ | ⟨p0,_ | ⟨p1,_ | ⟨p2,_ | ⟨p3,_ | ⟨p4,_ | ⟨p5,ps⟩⟩⟩⟩⟩⟩ <;> try (simp at h5;done)
 exact Pd9 (ho 0 (by omega)) (ho 1 (by omega)) (ho 2 (by omega)) (ho 3 (by omega))
set_option maxRecDepth 100000 in
theorem Bv8 (C : Nat) (Ap : Option Addr) (cp : Nat) (vd : Value) (ps : List ByteArray) (xs : List Db) (fp : List Nat) (base : Nat) (w : World) (ht : Tab w) (hps : ps.length = 5) (hsz : ∀ (i : Nat) (x : ByteArray),ps[i]? = some x→x.size ≤ 100000000)
 (hC : w.heap[C]? = some (.cells #[vd,.slice Ap ps.length cp] 153 (0,0))) (hrow : Rep.RowsAt stR w w.heap.size Ap ps.length ps) (hown : Rep.OwnRows dbR 132 w base vd xs fp) (hb : C < base) (hx : xs.length ≤ 140000000) (hbw : base ≤ w.heap.size) :
 Calls Tryz.prog 123 #[.pointer (some ⟨C,0,none⟩)] w fun e w' =>
  (Fg9 (ps.map bl) = none∧e = .returned (.bool false)∧Below C w w') ∨
  (∃ vd' fp',Fg9 (ps.map bl) = some (dbI ps)∧e = .returned (.bool true)∧w'.heap[C]? = some (.cells #[vd',.slice none 0 0] 153 (0,0))∧Rep.OwnRows dbR 132 w' base vd' (xs ++ [dbI ps]) fp'∧(∀ g,g < w.heap.size→g ≠ C→g ∉ fp→w'.heap[g]? = w.heap[g]?)∧Below C w w'):=by
 obtain ⟨j0,hj0,hz0,hz1,hz2⟩:=info_parts Tryz.infoDb;have HCs:=Lib.hid hC;have cC1 : w.cell? ⟨C,1,none⟩ = some (.slice Ap ps.length cp):=E9 hC 1;have hCl : C < w.heap.size:=(Array.getElem?_eq_some_iff.1 hC).1;have HG:=Lib.hid (fun (ho : ∀ j,j < 4→Bc9 (bl (gs ps (j + 1))) 65535 = true) => Yk9 hps ho)
 have HB:=Lib.hid (fun (j : Nat) (hj : j < 4) (hbad : Bc9 (bl (gs ps (j + 1))) 65535 = false) => Bu8 hps hj hbad)
 have HGE:=Lib.hid (fun (j : Nat) (hj : j < 5) => Rep.getElem?_of_lt hps hj)
 have n5 : 5 ≤ ps.length:=by omega
 clear hps hC;obtain ⟨b,off,_,_,rfl,_,_,_,_⟩:=hrow.elem (show 0 < ps.length by omega) (show 0 < 1 by omega)
 obtain ⟨p0,hp0⟩:=HGE.out 0 (by omega)
 obtain ⟨c0,hbl⟩:=Fj9 hrow 0 p0 hp0;have c0' : w.cell? ⟨b,off,none⟩ = some (.string p0):=c0;have HP0:=Lib.hid (Rq9 hp0);have HR:=Lib.hid hrow;have HO:=Lib.hid hown;have HT:=Lib.hid ht;clear c0 hp0 hrow hown ht;have j1 : (0 : Int) < (ps.length : Int):=by omega
 go_enter Tryz.func123,Tryz.ntmps123
 go_wp2_with fail;have V0 : ((w.alloc (.cells #[.string p0,.int .i64 0,.int .i64 0,.int .i64 0,.int .i64 0] 132)).alloc (.cells (ptrs w.heap.size) 168)).heap[w.heap.size]? = some (.cells (dbTo ps 0) 132 (0,0)):=by
  unfold dbTo;rw [HP0.out];exact (Below.heap_alloc _ _ _ (by simp)).trans (heap_alloc_new w _)
 have V1 : ((w.alloc (.cells #[.string p0,.int .i64 0,.int .i64 0,.int .i64 0,.int .i64 0] 132)).alloc (.cells (ptrs w.heap.size) 168)).heap[w.heap.size + 1]? = some (.cells (ptrs w.heap.size) 168 (0,0)):=G9 _ _ (by simp)
 have hb0 : Below w.heap.size w ((w.alloc (.cells #[.string p0,.int .i64 0,.int .i64 0,.int .i64 0,.int .i64 0] 132)).alloc (.cells (ptrs w.heap.size) 168)):=((Below.refl _ _).alloc (Nat.le_refl _) _).alloc (by simp) _
 go_loopw [21] (fun i wr => ∃ (j : Nat),j ≤ 4∧i = .int .i64 j∧Hid (wr.heap[w.heap.size]? = some (.cells (dbTo ps j) 132 (0,0)))∧Hid (wr.heap[w.heap.size + 1]? = some (.cells (ptrs w.heap.size) 168 (0,0)))∧Hid (∀ j',j' < j→Bc9 (bl (gs ps (j' + 1))) 65535 = true)∧Below w.heap.size w wr) (fun i _ => 4 - (intOf i).toNat)
 case atStart => exact ⟨0,by omega,rfl,Lib.hid V0,Lib.hid V1,Lib.hid fun j' h => absurd h (by omega),hb0⟩
 case round =>
  clear V0 V1 hb0 c0';obtain ⟨j,hj,rfl,hv,hv1,hok,hbj⟩:=hrel;by_cases hj4 : j < 4
  ·obtain ⟨q,hq⟩:=HGE.out (j + 1) (by omega)
   obtain ⟨cq,hbq⟩:=Fj9 ((HR.out.keep fun p hp => hbj.cell hp).more hbj.size) (j + 1) q hq
   have hqs:=hsz _ _ hq;have HQJ:=Lib.hid (Rq9 hq);obtain ⟨u,hu⟩:=dbTo_at ps hj4;have cD : wr.cell? ⟨w.heap.size,1 + j,none⟩ = some u:=(E9 hv.out (1 + j)).trans hu;have fD:=C9 hv.out (1 + j);have cP : wr.cell? ⟨w.heap.size + 1,j,none⟩ = some (.pointer (some ⟨w.heap.size,1 + j,none⟩)):=(E9 hv1.out j).trans (ptrs_at _ hj4);have cC : wr.cell? ⟨C,1,none⟩ = some (.slice (some ⟨b,off,none⟩) ps.length cp):=(hbj.cell hCl).trans cC1;have cq' : wr.cell? ⟨b,off + (j + 1),none⟩ = some (.string q):=cq;have n0 : (0 : Int) ≤ (j : Int):=by omega
   have n1 : (j : Int) < (4 : Int):=by omega
   have n3 : (j : Int) + 1 < (ps.length : Int):=by omega
   have n4 : (0 : Int) ≤ (j : Int) + 1:=by omega
   have HTw:=Lib.hid (HT.out.below hbj);obtain ⟨y5,hy5⟩ : ∃ y,Bc9 q.data.toList 65535 = y:=⟨_,rfl⟩;have HY5:=Lib.hid hy5;clear hq hy5 hu cq cC1;go_wp2_with fail;refine (Ta9 q 65535 wr HTw.out hqs).mono ?_;rintro e W5 ⟨rfl,hb5⟩;rw [HY5.out];have hDl : w.heap.size < wr.heap.size:=(Array.getElem?_eq_some_iff.1 hv.out).1;have hPl : w.heap.size + 1 < wr.heap.size:=(Array.getElem?_eq_some_iff.1 hv1.out).1;have hv5:=Lib.hid ((hb5.block _ hDl).trans hv.out);have hv15:=Lib.hid ((hb5.block _ hPl).trans hv1.out);have cD5 : W5.cell? ⟨w.heap.size,1 + j,none⟩ = some u:=(hb5.cell hDl).trans cD;have fD5:=C9 hv5.out (1 + j);have hb6:=Later.trans hbj hb5;clear hv hv1 cD fD cP cC cq' hb5 HTw hbj;cases y5
   ·have HN:=Lib.hid (HB.out j hj4 (by rw [HQJ.out];exact HY5.out))
    go_wp2_with fail;go_ret
    exact .inl ⟨HN.out,rfl,Below.mono hb6 (by omega)⟩
   ·go_wp2_with fail
    go_roundw
    case rel => exact ⟨j + 1, by omega, by go_num, Lib.hid (by rw [← Dq8 ps hj4]; unfold Cz9; rw [HQJ.out]; exact N9 hv5.out (1 + j) _), Lib.hid ((heap_setCell_other _ _ _ _ (by simp)).trans hv15.out), Lib.hid (fun j' h => by
       by_cases he : j' < j
       ·exact hok.out j' he
       ·obtain rfl : j' = j:=by omega
        rw [HQJ.out];exact HY5.out),Below.setCell hb6 (Nat.le_refl _) _⟩
    case measure => simp [intOf];omega
  ·have he : j = 4:=by omega
   have hv4 : wr.heap[w.heap.size]? = some (.cells #[.string (gs ps 0), .int .i64 (Cz9 ps 0), .int .i64 (Cz9 ps 1), .int .i64 (Cz9 ps 2), .int .i64 (Cz9 ps 3)] 132 (0, 0)) := by
       have h9:=hv.out;rw [he] at h9;exact h9
   have HD:=Lib.hid (HG.out fun j' h => hok.out j' (by omega))
   have n1 : ¬ ((j : Int) < (4 : Int)):=by omega
   clear he;have hCw : wr.heap[C]? = some (.cells #[vd,.slice (some ⟨b,off,none⟩) ps.length cp] 153 (0,0)):=(hbj.block _ hCl).trans HCs.out;have T : All (fun w' => Below w.heap.size w w'∧Rep.OwnRows dbR 132 w' base vd xs fp∧Hid (w'.heap[C]? = some (.cells #[vd,.slice (some ⟨b,off,none⟩) ps.length cp] 153 (0,0)))∧(w'.cell? ⟨C,0,none⟩ = some vd∧w'.cell? ⟨w.heap.size,0,none⟩ = some (.string (gs ps 0))∧w'.cell? ⟨w.heap.size,1,none⟩ = some (.int .i64 (Cz9 ps 0))∧w'.cell? ⟨w.heap.size,2,none⟩ = some (.int .i64 (Cz9 ps 1))∧w'.cell? ⟨w.heap.size,3,none⟩ = some (.int .i64 (Cz9 ps 2))∧w'.cell? ⟨w.heap.size,4,none⟩ = some (.int .i64 (Cz9 ps 3)))) wr:=⟨hbj,HO.out.of_below hbj,Lib.hid hCw,E9 hCw 0,E9 hv4 0,E9 hv4 1,E9 hv4 2,E9 hv4 3,E9 hv4 4⟩
   have HLT:=Lib.hid (show ∀ g,g ∈ fp→g < w.heap.size from fun g hg => (HO.out.lt g hg).2)
   clear hCw hv4 hv hv1 hok hbj cC1;go_wp2_with fail;refine M9 10 [0,1,2,3,4,5] [6,7,8,9,10] (fun w' => w'.cell? ⟨C,0,none⟩ = some vd∧w'.cell? ⟨w.heap.size,0,none⟩ = some (.string (gs ps 0))∧w'.cell? ⟨w.heap.size,1,none⟩ = some (.int .i64 (Cz9 ps 0))∧w'.cell? ⟨w.heap.size,2,none⟩ = some (.int .i64 (Cz9 ps 1))∧w'.cell? ⟨w.heap.size,3,none⟩ = some (.int .i64 (Cz9 ps 2))∧w'.cell? ⟨w.heap.size,4,none⟩ = some (.int .i64 (Cz9 ps 3))) (by kernel_rfl) (by kernel_rfl) T.drew.out.2.2.2 ?_
   replace T:=T.drew;iterate 6 (refine LexR.cons rfl ?_ (fun w' hw => ?_) ?_;rotate_left;focus (obtain ⟨e0,e1,e2,e3,e4,e5⟩:=hw;go_simp;(try exact rfl));(try go_frame))
   refine LexR.nil (LexW.cons rfl ?_);go_wp2_with fail;have TA:=T.alloc (.cells #[.string (gs ps 0),.int .i64 (Cz9 ps 0),.int .i64 (Cz9 ps 1),.int .i64 (Cz9 ps 2),.int .i64 (Cz9 ps 3)] 132);have hnew:=T7 wr.drew #[.string (gs ps 0),.int .i64 (Cz9 ps 0),.int .i64 (Cz9 ps 1),.int .i64 (Cz9 ps 2),.int .i64 (Cz9 ps 3)] 5 1 132 (g:=wr.drew.heap.size) rfl rfl (by simp [maxLen])
   refine ⟨fun _ => TA.out.2.2.2,LexW.cons rfl ?_⟩
   try go_frame
   refine Rep.wpList_push _ rfl (.tmp 48) (.tmp 50) _ rfl dbR base 132 j0 _ 48 Tryz.underlying114 hj0 hz0 hz1 hz2 rfl (by decide) vd xs fp rfl TA.out.2.1 _ 1 _ (dbI ps) [] rfl hnew (by simp [Value.oneCell']) (Qc9 _ _ (dbI ps)) (fun g hg hg' => by cases hg) (by simp only [maxLen];omega) (by omega) (by have:=TA.out.1.size;have h8:=TA.out.1.size;simp at h8 ⊢;omega) ?_
   intro A2 c2 w2 fp2 hown2 hg2 hf2 hv2;have hCS:=TA.out.1.size;have hb2 : Below C w w2:=(Below.mono TA.out.1 (show C ≤ w.heap.size by omega)).grown hg2 (by omega) (fun j hj => by have:=(hv2 j hj).1;omega)
   have hbl : ∀ g,g < wr.heap.size→g ∉ fp→w2.heap[g]? = wr.heap[g]?:=fun g hg hn => (hg2.block g (by simp;omega) (fun e => hn (hv2 g e.symm).2)).trans (Below.heap_alloc wr.drew _ g hg)
   have nC : C ∉ fp:=fun e => absurd ((T.out.2.1.lt C e).1) (by omega)
   have nD : w.heap.size ∉ fp:=fun e => absurd (HLT.out _ e) (by omega)
   have hT : (∀ (p : Addr) (v : Value),wr.cell? p = some v→p.block ∉ fp→w2.cell? p = some v):=fun p v hp hn => (World.cell?_of_block (hbl _ (World.block_lt_of_cell? _ _ hp) hn)).trans hp
   obtain ⟨tb,_,hC9,e0,e1,e2,e3,e4,e5⟩:=T.out;have hoth:=Lib.hid (show ∀ g,g < w.heap.size→g ∉ fp→w2.heap[g]? = w.heap[g]? from fun g hg hn => (hbl g (Nat.lt_of_lt_of_le hg (by have:=tb.size;simpa using this)) hn).trans (tb.block g hg))
   have hC2 : w2.heap[C]? = some (.cells #[vd,.slice (some ⟨b,off,none⟩) ps.length cp] 153 (0,0)):=(hbl C (by have:=tb.size;simp at this;omega) nC).trans hC9.out
   have T2 : Hid (w2.cell? ⟨C, 0, none⟩ = some vd ∧ w2.cell? ⟨w.heap.size, 0, none⟩ = some (.string (gs ps 0)) ∧ w2.cell? ⟨w.heap.size, 1, none⟩ = some (.int .i64 (Cz9 ps 0)) ∧ w2.cell? ⟨w.heap.size, 2, none⟩ = some (.int .i64 (Cz9 ps 1)) ∧ w2.cell? ⟨w.heap.size, 3, none⟩ = some (.int .i64 (Cz9 ps 2)) ∧ w2.cell? ⟨w.heap.size, 4, none⟩ = some (.int .i64 (Cz9 ps 3))) :=
       Lib.hid ⟨hT _ _ e0 nC,hT _ _ e1 nD,hT _ _ e2 nD,hT _ _ e3 nD,hT _ _ e4 nD,hT _ _ e5 nD⟩
   have cz:=E9 hC2 0;have fz:=C9 hC2 0;have cz1 : (w2.setCell ⟨C,0,none⟩ (.slice A2 (xs.length + 1) c2)).cell? ⟨C,1,none⟩ = some (.slice (some ⟨b,off,none⟩) ps.length cp):=E9 (N9 hC2 0 _) 1;have fz1 : (w2.setCell ⟨C,0,none⟩ (.slice A2 (xs.length + 1) c2)).frozen? ⟨C,1,none⟩ = false:=C9 (N9 hC2 0 _) 1;have hC3:=Lib.hid (N9 (N9 hC2 0 (.slice A2 (xs.length + 1) c2)) 1 (.slice none 0 0));have hown5 : Hid (Rep.OwnRows dbR 132 w2 base (.slice A2 (xs.length + 1) c2) (xs ++ [dbI ps]) fp2):=Lib.hid hown2;clear e0 e1 e2 e3 e4 e5 hT hbl hv2 hf2 hg2 hown2 hnew TA T nD hC2 hC9 tb hCS;refine ⟨fun _ => T2.out,LexW.cons rfl ?_⟩
   try go_frame
   go_wp2_with fail;refine ⟨fun _ => T2.out,LexW.cons rfl ?_⟩
   try go_frame
   go_wp2_with fail;refine ⟨fun _ => T2.out,LexW.cons rfl ?_⟩
   try go_frame
   go_wp2_with fail;refine ⟨fun h => absurd rfl h,LexW.nil ?_⟩
   go_wp2_with fail;go_ret
   exact .inr ⟨_,fp2,HD.out,rfl,hC3.out,(hown5.out.setLow hb _).setLow hb _,fun g hg hgC hn => (heap_setCell_other _ _ _ _ hgC).trans ((heap_setCell_other _ _ _ _ hgC).trans (hoth.out g hg hn)),(hb2.setCell (Nat.le_refl _) _).setCell (Nat.le_refl _) _⟩
theorem Dn8 {s : ByteArray} {i : Nat} (h : i < s.size) : s.get! i = s[i]:=by
 simp [ByteArray.get!,getElem!_pos,h];rfl
theorem Wz9 (s : ByteArray) (k : Nat) (h : k < s.size) (ha : 128 ≤ (s[k]'h).toNat) : k + (Utf8.decode s k).2 ≤ s.size∧∀ i,i < (Utf8.decode s k).2→128 ≤ (s.get! (k + i)).toNat:=by
 have h0 : 128 ≤ (s.get! (k + 0)).toNat:=by rw [Nat.add_zero,Dn8 h];exact ha
 unfold Utf8.decode;simp only [];split
 ·omega
 ·split
  ·rename_i h1
   simp only [Bool.and_eq_true,beq_iff_eq,decide_eq_true_eq] at h1;have a1 : 128 ≤ (s.get! (k + 1)).toNat:=by omega
   split
   ·refine ⟨by show k + 2 ≤ s.size;omega,fun i hi => ?_⟩
    have hi' : i < 2:=hi;rcases (by omega : i = 0 ∨ i = 1) with rfl | rfl <;> assumption
   ·refine ⟨by show k + 1 ≤ s.size;omega,fun i hi => ?_⟩
    have hi' : i < 1:=hi;obtain rfl : i = 0:=by omega
    exact h0
  ·split
   ·rename_i h1
    simp only [Bool.and_eq_true,beq_iff_eq,decide_eq_true_eq] at h1;have a1 : 128 ≤ (s.get! (k + 1)).toNat:=by omega
    have a2 : 128 ≤ (s.get! (k + 2)).toNat:=by omega
    split
    ·refine ⟨by show k + 3 ≤ s.size;omega,fun i hi => ?_⟩
     have hi' : i < 3:=hi;rcases (by omega : i = 0 ∨ i = 1 ∨ i = 2) with rfl | rfl | rfl <;> assumption
    ·refine ⟨by show k + 1 ≤ s.size;omega,fun i hi => ?_⟩
     have hi' : i < 1:=hi;obtain rfl : i = 0:=by omega
     exact h0
   ·split
    ·rename_i h1
     simp only [Bool.and_eq_true,beq_iff_eq,decide_eq_true_eq] at h1;have a1 : 128 ≤ (s.get! (k + 1)).toNat:=by omega
     have a2 : 128 ≤ (s.get! (k + 2)).toNat:=by omega
     have a3 : 128 ≤ (s.get! (k + 3)).toNat:=by omega
     split
     ·refine ⟨by show k + 4 ≤ s.size;omega,fun i hi => ?_⟩
      have hi' : i < 4:=hi;rcases (by omega : i = 0 ∨ i = 1 ∨ i = 2 ∨ i = 3) with rfl | rfl | rfl | rfl <;> assumption
     ·refine ⟨by show k + 1 ≤ s.size;omega,fun i hi => ?_⟩
      have hi' : i < 1:=hi;obtain rfl : i = 0:=by omega
      exact h0
    ·refine ⟨by show k + 1 ≤ s.size;omega,fun i hi => ?_⟩
     have hi' : i < 1:=hi;obtain rfl : i = 0:=by omega
     exact h0
def RunTo (T : List UInt8) (k f : Nat) (ps : List (List UInt8)) (xs : List Db) : Prop:=
 f ≤ k∧Gq9 T [] [] [] = Gq9 (T.drop k) ((T.drop f).take (k - f)) ps xs
theorem RunTo.zero (T : List UInt8) : RunTo T 0 0 [] []:=⟨Nat.le_refl _,by simp⟩
theorem RunTo.skip {T : List UInt8} {k f : Nat} {ps : List (List UInt8)} {xs : List Db} {b : UInt8} (h : RunTo T k f ps xs) (hb : T[k]? = some b) (hm : Du9 b = false) : RunTo T (k + 1) f ps xs:=by
 have hlt:=(List.getElem?_eq_some_iff.1 hb).1;obtain ⟨h1,h2⟩:=h;refine ⟨by omega,?_⟩
 have e : T.drop k = b :: T.drop (k + 1):=by rw [List.drop_eq_getElem_cons hlt,(List.getElem?_eq_some_iff.1 hb).2]
 have e2 : (T.drop f).take (k + 1 - f) = (T.drop f).take (k - f) ++ [b]:=by
  rw [show k + 1 - f = (k - f) + 1 by omega,List.take_add_one,List.getElem?_drop,show f + (k - f) = k by omega,hb]
  rfl
 rw [h2,e,Cy9,if_pos hm,e2]
theorem RunTo.skips {T : List UInt8} {f : Nat} {ps : List (List UInt8)} {xs : List Db} : ∀ (d k : Nat),RunTo T k f ps xs→(∀ i,i < d→∃ b,T[k + i]? = some b∧Du9 b = false)→RunTo T (k + d) f ps xs:=by
 intro d;induction d with
 | zero => intro k h _;exact h
 | succ d ih =>
   intro k h hd;obtain ⟨b,hb,hm⟩:=hd d (by omega)
   exact (ih k h (fun i hi => hd i (by omega))).skip hb hm
theorem RunTo.bad {T : List UInt8} {k f : Nat} {ps : List (List UInt8)} {xs : List Db} {b : UInt8} (h : RunTo T k f ps xs) (hb : T[k]? = some b) (hm : Du9 b = true) (hk : b ≠ Cn9 ps.length) : Gq9 T [] [] [] = none:=by
 have hlt:=(List.getElem?_eq_some_iff.1 hb).1;have e : T.drop k = b :: T.drop (k + 1):=by rw [List.drop_eq_getElem_cons hlt,(List.getElem?_eq_some_iff.1 hb).2]
 rw [h.2,e,Cy9,if_neg (by simp [hm]),if_pos hk]
theorem RunTo.part {T : List UInt8} {k f : Nat} {ps : List (List UInt8)} {xs : List Db} {b : UInt8} (h : RunTo T k f ps xs) (hb : T[k]? = some b) (hm : Du9 b = true) (hk : b = Cn9 ps.length) (h59 : b ≠ 59) : RunTo T (k + 1) (k + 1) (ps ++ [(T.drop f).take (k - f)]) xs:=by
 have hlt:=(List.getElem?_eq_some_iff.1 hb).1;have e : T.drop k = b :: T.drop (k + 1):=by rw [List.drop_eq_getElem_cons hlt,(List.getElem?_eq_some_iff.1 hb).2]
 refine ⟨Nat.le_refl _,?_⟩;rw [h.2,e,Cy9,if_neg (by simp [hm]),if_neg (fun hn => hn hk),if_neg h59]
 simp
theorem RunTo.none {T : List UInt8} {k f : Nat} {ps : List (List UInt8)} {xs : List Db} (h : RunTo T k f ps xs) (hb : T[k]? = some 59) (hk : 59 = Cn9 ps.length) (he : Fg9 (ps ++ [(T.drop f).take (k - f)]) = Option.none) : Gq9 T [] [] [] = Option.none:=by
 have hlt:=(List.getElem?_eq_some_iff.1 hb).1;have e : T.drop k = 59 :: T.drop (k + 1):=by rw [List.drop_eq_getElem_cons hlt,(List.getElem?_eq_some_iff.1 hb).2]
 rw [h.2,e,Cy9,if_neg (by decide),if_neg (fun hn => hn hk),if_pos rfl,he]
theorem RunTo.some {T : List UInt8} {k f : Nat} {ps : List (List UInt8)} {xs : List Db} {d : Db} (h : RunTo T k f ps xs) (hb : T[k]? = some 59) (hk : 59 = Cn9 ps.length) (he : Fg9 (ps ++ [(T.drop f).take (k - f)]) = Option.some d) : RunTo T (k + 1) (k + 1) [] (xs ++ [d]):=by
 have hlt:=(List.getElem?_eq_some_iff.1 hb).1;have e : T.drop k = 59 :: T.drop (k + 1):=by rw [List.drop_eq_getElem_cons hlt,(List.getElem?_eq_some_iff.1 hb).2]
 refine ⟨Nat.le_refl _,?_⟩;rw [h.2,e,Cy9,if_neg (by decide),if_neg (fun hn => hn hk),if_pos rfl,he]
 simp
theorem RunTo.all {T : List UInt8} {f : Nat} {ps : List (List UInt8)} {xs : List Db} (h : RunTo T T.length f ps xs) : Gq9 T [] [] [] = Option.some xs:=by
 rw [h.2,List.drop_length];rfl
end Go.Proofs.YthpkdjflndiojaaGreatDoor
namespace Go.Proofs.YthpkdjflndiojaaGreatDoor
open Go.RowKit Go.Lib
set_option linter.unusedVariables false
def RdAt (C I base : Nat) (T : ByteArray) (k f : Nat) (ps : List ByteArray) (xs : List Db) (w : World) : Prop:=
 ∃ vd Ap cp fp fp2,w.heap[C]? = some (.cells #[vd,.slice Ap ps.length cp] 153 (0,0))∧w.heap[I]? = some (.stringIter T k)∧Rep.OwnRows dbR 132 w base vd xs fp∧Rep.OwnRows stR 9 w base (.slice Ap ps.length cp) ps fp2∧(∀ g,g ∈ fp→g ∉ fp2)
def RetRead (T : List UInt8) (w : World) (e : Ending) (w' : World) : Prop:=
 (Gq9 T [] [] [] = none∧(∃ n : Int,e = .returned (.tuple #[.slice none 0 0,.iface 146 (.agg #[.int .i64 n])]))∧Below w.heap.size w w') ∨
 (∃ A c xs fp,Gq9 T [] [] [] = some xs∧e = .returned (.tuple #[.slice A xs.length c,.nilIface])∧Rep.OwnRows dbR 132 w' w.heap.size (.slice A xs.length c) xs fp∧Below w.heap.size w w')
theorem Bi8 {b : UInt8} (h : 128 ≤ b.toNat) : Du9 b = false:=by
 cases h2 : Du9 b with
 | false => rfl
 | true =>
   unfold Du9 at h2;simp only [Bool.or_eq_true,beq_iff_eq] at h2;rcases h2 with (h2 | h2) | h2 <;> (subst h2;simp at h)
set_option maxRecDepth 100000 in
theorem Sx9 (s : ByteArray) (w : World) (ht : Tab w) (hs : s.size ≤ 1048576) : Calls Tryz.prog 114 #[.string s] w (RetRead (s.data.toList ++ [59]) w):=by
 obtain ⟨i0,hi0,hz0,hz1,hz2⟩:=info_parts Tryz.infoStr;obtain ⟨T,hT⟩ : ∃ T : ByteArray,T = s ++ ⟨#[59]⟩:=⟨_,rfl⟩;have hTs : T.size = s.size + 1:=by rw [hT,ByteArray.size_append];rfl
 have hTl : T.data.toList = s.data.toList ++ [59]:=by rw [hT];simp
 have HTL:=Lib.hid hTl;rw [← hTl];have HT:=Lib.hid ht;have HTS:=Lib.hid hTs;have lT : ¬ (140737488355328 < s.size + 1):=by omega
 go_enter Tryz.func114,Tryz.ntmps114
 go_wp2_with fail;rw [← hT];have hb0 : Below w.heap.size w ((w.alloc (.cells #[.slice none 0 0,.slice none 0 0] 153)).iter T 0):=((Below.refl _ _).alloc (Nat.le_refl _) _).alloc (by simp) _
 have V0 : ((w.alloc (.cells #[.slice none 0 0,.slice none 0 0] 153)).iter T 0).heap[w.heap.size]? = some (.cells #[.slice none 0 0,.slice none 0 0] 153 (0,0)):=(Below.heap_alloc _ _ _ (by simp)).trans (heap_alloc_new w _)
 have V1 : ((w.alloc (.cells #[.slice none 0 0,.slice none 0 0] 153)).iter T 0).heap[w.heap.size + 1]? = some (.stringIter T 0):=G9 _ _ (by simp)
 have hR0:=Lib.hid (show RdAt w.heap.size (w.heap.size + 1) (w.heap.size + 2) T 0 0 [] [] ((w.alloc (.cells #[.slice none 0 0,.slice none 0 0] 153)).iter T 0) from
  ⟨.slice none 0 0,none,0,[],[],V0,V1,⟨[],[],⟨by simp,.inl ⟨rfl,rfl⟩⟩,rfl,fun i x f hx => by simp at hx,rfl,by simp⟩,⟨[],[],⟨by simp,.inl ⟨rfl,rfl⟩⟩,rfl,fun i x f hx => by simp at hx,rfl,by simp⟩,fun g hg => by simp at hg⟩)
 clear V0 V1 hT hTs hTl lT;have hi0' : ((w.alloc (.cells #[.slice none 0 0,.slice none 0 0] 153)).heap.size) = w.heap.size + 1:=by simp
 go_loopw [5] (fun fr wr => ∃ (k f : Nat) (ps : List ByteArray) (xs : List Db),fr = .int .i64 f∧k ≤ T.size∧f ≤ k∧xs.length ≤ k∧ps.length ≤ 4∧Hid (RdAt w.heap.size (w.heap.size + 1) (w.heap.size + 2) T k f ps xs wr)∧Hid (RunTo T.data.toList k f (ps.map bl) xs)∧Hid (∀ (i : Nat) (x : ByteArray),ps[i]? = some x→x.size ≤ T.size)∧Below w.heap.size w wr) (fun _ wr => T.size - wr.iterPos (w.heap.size + 1))
 case atStart => exact ⟨0,0,[],[],rfl,by omega,by omega,by simp,by simp,hR0,Lib.hid (RunTo.zero _),Lib.hid (fun i x h => by simp at h),hb0⟩
 case round =>
  clear hb0 hR0;obtain ⟨k,f,ps,xs,rfl,hk,hf,hx,hps,hrd,hrun,hsz,hb⟩:=hrel;obtain ⟨vd,Ap,cp,fp,fp2,hC,hI,hO1,hO2,hdis⟩:=hrd.out;have hpos : wr.iterPos (w.heap.size + 1) = k:=by unfold World.iterPos;rw [hI]
  have HC:=Lib.hid hC;have HI:=Lib.hid hI;have HO1:=Lib.hid hO1;have HO2:=Lib.hid hO2;have HDis:=Lib.hid hdis;have HPOS:=Lib.hid hpos;clear hC hI hO1 hO2 hdis hrd hpos
  have hmv : ∀ k', RdAt w.heap.size (w.heap.size + 1) (w.heap.size + 2) T k' f ps xs (wr.iterAt (w.heap.size + 1) T k') := fun k' =>
     ⟨vd,Ap,cp,fp,fp2,(iterAt_other _ _ _ _ _ (by omega)).trans HC.out,iterAt_heap _ _ _ _ _ HI.out,HO1.out.kept (fun g hg => iterAt_other _ _ _ _ _ (by have:=(HO1.out.lt g hg).1;omega)),HO2.out.kept (fun g hg => iterAt_other _ _ _ _ _ (by have:=(HO2.out.lt g hg).1;omega)),HDis.out⟩
  by_cases hlt : k < T.size
  ·by_cases ha : T[k].toNat < 128
   ·have hnx:=fun ty => run_next_ascii_at (P:=Tryz.prog) wr (w.heap.size + 1) T k ty HI.out hlt ha
    have HG:=Lib.hid (Jz9 T k hlt);obtain ⟨b,hbb⟩ : ∃ b,T[k] = b:=⟨_,rfl⟩;rw [hbb] at HG ha hnx;clear hbb;by_cases hm : Du9 b = true
    ·have h3 : b = 58 ∨ b = 47 ∨ b = 59 := by
        have h9:=hm;unfold Du9 at h9;simp only [Bool.or_eq_true,beq_iff_eq] at h9;rcases h9 with (h9 | h9) | h9
        ·exact .inl h9
        ·exact .inr (.inl h9)
        ·exact .inr (.inr h9)
     by_cases h58 : b = 58
     ·have d58 : ((b.toNat : Int) != (58 : Int)) = false:=by rw [h58];rfl
      have HB:=Lib.hid h58;have h59 : b ≠ 59:=by rw [h58];decide
      have e59 : ((b.toNat : Int) == (59 : Int)) = false:=by rw [h58];rfl
      clear h58;have hC1:=(hmv (k + 1));obtain ⟨vd9,Ap9,cp9,fp9,fq9,gC,gI,gO1,gO2,gd⟩:=hC1;have c1 : (wr.iterAt (w.heap.size + 1) T (k + 1)).cell? ⟨w.heap.size,1,none⟩ = some (.slice Ap9 ps.length cp9):=E9 gC 1;have f1:=C9 gC 1;have hbi : Below w.heap.size w (wr.iterAt (w.heap.size + 1) T (k + 1)):=below_iterAt hb (by omega) _ _
      have HgC:=Lib.hid gC;have HgI:=Lib.hid gI;have HgO1:=Lib.hid gO1;have HgO2:=Lib.hid gO2;have Hgd:=Lib.hid gd;clear gC gI gO1 gO2 gd hb hmv;go_wp2_with fail;generalize hW : wr.iterAt (w.heap.size + 1) T (k + 1) = W1 at c1 f1 hbi HgC HgI HgO1 HgO2 ⊢;clear hW;refine (Pf9 w.heap.size Ap9 ps.length cp9 W1 c1).mono ?_;rintro e W2 ⟨rfl,rfl⟩;by_cases hmk : b = Cn9 ps.length
      ·have dm : ((b.toNat : Int) != ((Cn9 ps.length).toNat : Int)) = false:=by rw [hmk];simp
       have HMK:=Lib.hid hmk;clear hmk;have sk : k ≤ s.size:=by have:=HTS.out;omega
       have i3 : (f : Int) ≤ (k : Int):=by omega
       have i4 : (k : Int) ≤ (s.size : Int):=by omega
       have HX := Lib.hid (show bl (s.extract f k) = (T.data.toList.drop f).take (k - f) by
            unfold bl;rw [Bu9,HTL.out,List.drop_append_of_le_length (by simp;omega),List.take_append_of_le_length (by simp;omega)])
       have hxz : (s.extract f k).size ≤ T.size := by
            have h9:=congrArg List.length (Bu9 s f k);rw [List.length_take] at h9;have:=HTS.out;simp at h9 ⊢;omega
       have T0 : All (fun w' => Below w.heap.size w w'∧Rep.OwnRows stR 9 w' (w.heap.size + 2) (.slice Ap9 ps.length cp9) ps fq9∧w'.cell? ⟨w.heap.size,1,none⟩ = some (.slice Ap9 ps.length cp9)) W2:=⟨hbi,HgO2.out,c1⟩
       go_wp2_with fail;refine M9 9 [0,1,2,3,4,5] [6,7,8,9] (fun w' => w'.cell? ⟨w.heap.size,1,none⟩ = some (.slice Ap9 ps.length cp9)) (by kernel_rfl) (by kernel_rfl) T0.drew.out.2.2 ?_
       replace T0:=T0.drew;iterate 6 (refine LexR.cons rfl ?_ (fun w' hw => ?_) ?_;rotate_left;focus (go_simp;(try exact rfl));(try go_frame))
       refine LexR.nil (LexW.cons rfl ?_);go_wp2_with fail;have TA:=T0.alloc (.cells #[.string (s.extract f k)] 9);have hnew:=T7 W2.drew #[.string (s.extract f k)] 1 1 9 (g:=W2.drew.heap.size) rfl rfl (by simp [maxLen])
       refine ⟨fun _ => TA.out.2.2,LexW.cons rfl ?_⟩
       try go_frame
       refine Rep.wpList_push _ rfl (.tmp 32) (.tmp 37) _ rfl stR (w.heap.size + 2) 9 i0 _ 16 Tryz.underlying120 hi0 hz0 hz1 hz2 rfl (by decide) _ ps fq9 rfl TA.out.2.1 _ 1 _ (s.extract f k) [] rfl hnew (Hr9 rfl) ⟨rfl,rfl⟩ (fun g hg hg' => by cases hg) (by simp only [maxLen];omega) (by omega) (by have h8:=(Array.getElem?_eq_some_iff.1 HgI.out).1;simp;omega) ?_
       intro A2 c2 w2 fp2 hown2 hg2 hf2 hv2;have hIl:=(Array.getElem?_eq_some_iff.1 HgI.out).1;have hbl : ∀ g,g < W2.heap.size→g ∉ fq9→w2.heap[g]? = W2.heap[g]?:=fun g hg hn => (hg2.block g (by simp;omega) (fun e => hn (hv2 g e.symm).2)).trans (Below.heap_alloc W2.drew _ g hg)
       have nC : w.heap.size ∉ fq9:=fun e => absurd ((HgO2.out.lt _ e).1) (by omega)
       have nI : w.heap.size + 1 ∉ fq9:=fun e => absurd ((HgO2.out.lt _ e).1) (by omega)
       have hC2 : w2.heap[w.heap.size]? = some (.cells #[vd9,.slice Ap9 ps.length cp9] 153 (0,0)):=(hbl _ (by omega) nC).trans HgC.out
       have hI2 : w2.heap[w.heap.size + 1]? = some (.stringIter T (k + 1)):=(hbl _ (by omega) nI).trans HgI.out
       have cz:=E9 hC2 1;have fz:=C9 hC2 1;have hb2 : Below w.heap.size w w2:=TA.out.1.grown hg2 TA.out.1.size (fun j hj => by have:=(hv2 j hj).1;omega)
       have hb3:=Below.setCell hb2 (p:=⟨w.heap.size,1,none⟩) (Nat.le_refl _) (.slice A2 (ps.length + 1) c2);have hC3:=Lib.hid (N9 hC2 1 (.slice A2 (ps.length + 1) c2));have hI3:=Lib.hid (show (w2.setCell ⟨w.heap.size,1,none⟩ (.slice A2 (ps.length + 1) c2)).heap[w.heap.size + 1]? = some (.stringIter T (k + 1)) from (heap_setCell_other _ _ _ _ (by simp)).trans hI2)
       have hO3:=Lib.hid ((HgO1.out.kept fun g hg => hbl g (HgO1.out.lt g hg).2 (Hgd.out g hg)).setLow (show (⟨w.heap.size,1,none⟩ : Addr).block < w.heap.size + 2 by simp) (.slice A2 (ps.length + 1) c2))
       have hP3:=Lib.hid (hown2.setLow (show (⟨w.heap.size,1,none⟩ : Addr).block < w.heap.size + 2 by simp) (.slice A2 (ps.length + 1) c2))
       have hd3 := Lib.hid (show ∀ g, g ∈ fp9 → g ∉ fp2 from fun g hg hg' => by
            rcases hf2 g hg' with h | h | h
            ·exact Hgd.out g hg h
            ·cases h
            ·have:=(HgO1.out.lt g hg).2
             simp at h;omega)
       have cz' : w2.cell? ⟨w.heap.size,1,none⟩ = some (.slice Ap9 ps.length cp9):=cz;clear hC2 hI2 hbl nC nI hg2 hf2 hv2 hown2 hnew TA T0 hb2 cz c1 f1 hbi HgC HgI HgO1 HgO2 Hgd;refine ⟨fun _ => cz',LexW.cons rfl ?_⟩
       try go_frame
       go_wp2_with fail;refine ⟨fun _ => cz',LexW.cons rfl ?_⟩
       try go_frame
       go_wp2_with fail;refine ⟨fun h => absurd rfl h,LexW.nil ?_⟩
       have kz : (k : Int) < 2000000:=by have:=HTS.out;omega
       have HN:=Lib.hid (hrun.out.part HG.out hm (by rw [List.length_map];exact HMK.out) h59)
       have hp4 : ps.length + 1 ≤ 4 := by
            have : ps.length ≠ 4:=fun e => h59 (by rw [HMK.out,e];rfl)
            omega
       have hsz' := Lib.hid (show ∀ (i : Nat) (x : ByteArray), (ps ++ [s.extract f k])[i]? = some x → x.size ≤ T.size from fun i x hx => by
            rcases List.mem_append.1 (List.mem_of_getElem? hx) with h | h
            ·obtain ⟨i',hi'⟩:=List.mem_iff_getElem?.1 h
             exact hsz.out i' x hi'
            ·rw [List.mem_singleton.1 h];exact hxz)
       clear h59;go_wp2_with fail;go_roundw
       case rel => exact ⟨k + 1,k + 1,ps ++ [s.extract f k],xs,by go_num,by omega,by omega,by omega,by simp;omega,Lib.hid ⟨_,A2,c2,fp9,fp2,by rw [List.length_append];exact hC3.out,hI3.out,hO3.out,by rw [List.length_append];exact hP3.out,hd3.out⟩,Lib.hid (by rw [List.map_append,List.map_cons,List.map_nil,HX.out];exact HN.out),hsz',hb3⟩
       case measure => rw [HPOS.out];unfold World.iterPos;rw [hI3.out];simp;omega
      ·have dm : ((b.toNat : Int) != ((Cn9 ps.length).toNat : Int)) = true:=by simp;exact fun e => hmk (UInt8.toNat_inj.1 (by omega))
       have HN:=Lib.hid (hrun.out.bad HG.out hm (by rw [List.length_map];exact hmk))
       clear hmk;go_wp2_with fail;go_ret2
       exact .inl ⟨HN.out,⟨_,rfl⟩,hbi⟩
     ·by_cases h47 : b = 47
      ·have d58 : ((b.toNat : Int) != (58 : Int)) = true:=by simp;exact fun e => h58 (UInt8.toNat_inj.1 (by show b.toNat = 58;omega))
       have d47 : ((b.toNat : Int) != (47 : Int)) = false:=by rw [h47];rfl
       have HB:=Lib.hid h47;have h59 : b ≠ 59:=by rw [h47];decide
       have e59 : ((b.toNat : Int) == (59 : Int)) = false:=by rw [h47];rfl
       clear h47;have hC1:=(hmv (k + 1));obtain ⟨vd9,Ap9,cp9,fp9,fq9,gC,gI,gO1,gO2,gd⟩:=hC1;have c1 : (wr.iterAt (w.heap.size + 1) T (k + 1)).cell? ⟨w.heap.size,1,none⟩ = some (.slice Ap9 ps.length cp9):=E9 gC 1;have f1:=C9 gC 1;have hbi : Below w.heap.size w (wr.iterAt (w.heap.size + 1) T (k + 1)):=below_iterAt hb (by omega) _ _
       have HgC:=Lib.hid gC;have HgI:=Lib.hid gI;have HgO1:=Lib.hid gO1;have HgO2:=Lib.hid gO2;have Hgd:=Lib.hid gd;clear gC gI gO1 gO2 gd hb hmv;go_wp2_with fail;generalize hW : wr.iterAt (w.heap.size + 1) T (k + 1) = W1 at c1 f1 hbi HgC HgI HgO1 HgO2 ⊢;clear hW;refine (Pf9 w.heap.size Ap9 ps.length cp9 W1 c1).mono ?_;rintro e W2 ⟨rfl,rfl⟩;by_cases hmk : b = Cn9 ps.length
       ·have dm : ((b.toNat : Int) != ((Cn9 ps.length).toNat : Int)) = false:=by rw [hmk];simp
        have HMK:=Lib.hid hmk;clear hmk;have sk : k ≤ s.size:=by have:=HTS.out;omega
        have i3 : (f : Int) ≤ (k : Int):=by omega
        have i4 : (k : Int) ≤ (s.size : Int):=by omega
        have HX := Lib.hid (show bl (s.extract f k) = (T.data.toList.drop f).take (k - f) by
             unfold bl;rw [Bu9,HTL.out,List.drop_append_of_le_length (by simp;omega),List.take_append_of_le_length (by simp;omega)])
        have hxz : (s.extract f k).size ≤ T.size := by
             have h9:=congrArg List.length (Bu9 s f k);rw [List.length_take] at h9;have:=HTS.out;simp at h9 ⊢;omega
        have T0 : All (fun w' => Below w.heap.size w w'∧Rep.OwnRows stR 9 w' (w.heap.size + 2) (.slice Ap9 ps.length cp9) ps fq9∧w'.cell? ⟨w.heap.size,1,none⟩ = some (.slice Ap9 ps.length cp9)) W2:=⟨hbi,HgO2.out,c1⟩
        go_wp2_with fail;refine M9 9 [0,1,2,3,4,5] [6,7,8,9] (fun w' => w'.cell? ⟨w.heap.size,1,none⟩ = some (.slice Ap9 ps.length cp9)) (by kernel_rfl) (by kernel_rfl) T0.drew.out.2.2 ?_
        replace T0:=T0.drew;iterate 6 (refine LexR.cons rfl ?_ (fun w' hw => ?_) ?_;rotate_left;focus (go_simp;(try exact rfl));(try go_frame))
        refine LexR.nil (LexW.cons rfl ?_);go_wp2_with fail;have TA:=T0.alloc (.cells #[.string (s.extract f k)] 9);have hnew:=T7 W2.drew #[.string (s.extract f k)] 1 1 9 (g:=W2.drew.heap.size) rfl rfl (by simp [maxLen])
        refine ⟨fun _ => TA.out.2.2,LexW.cons rfl ?_⟩
        try go_frame
        refine Rep.wpList_push _ rfl (.tmp 32) (.tmp 37) _ rfl stR (w.heap.size + 2) 9 i0 _ 16 Tryz.underlying120 hi0 hz0 hz1 hz2 rfl (by decide) _ ps fq9 rfl TA.out.2.1 _ 1 _ (s.extract f k) [] rfl hnew (Hr9 rfl) ⟨rfl,rfl⟩ (fun g hg hg' => by cases hg) (by simp only [maxLen];omega) (by omega) (by have h8:=(Array.getElem?_eq_some_iff.1 HgI.out).1;simp;omega) ?_
        intro A2 c2 w2 fp2 hown2 hg2 hf2 hv2;have hIl:=(Array.getElem?_eq_some_iff.1 HgI.out).1;have hbl : ∀ g,g < W2.heap.size→g ∉ fq9→w2.heap[g]? = W2.heap[g]?:=fun g hg hn => (hg2.block g (by simp;omega) (fun e => hn (hv2 g e.symm).2)).trans (Below.heap_alloc W2.drew _ g hg)
        have nC : w.heap.size ∉ fq9:=fun e => absurd ((HgO2.out.lt _ e).1) (by omega)
        have nI : w.heap.size + 1 ∉ fq9:=fun e => absurd ((HgO2.out.lt _ e).1) (by omega)
        have hC2 : w2.heap[w.heap.size]? = some (.cells #[vd9,.slice Ap9 ps.length cp9] 153 (0,0)):=(hbl _ (by omega) nC).trans HgC.out
        have hI2 : w2.heap[w.heap.size + 1]? = some (.stringIter T (k + 1)):=(hbl _ (by omega) nI).trans HgI.out
        have cz:=E9 hC2 1;have fz:=C9 hC2 1;have hb2 : Below w.heap.size w w2:=TA.out.1.grown hg2 TA.out.1.size (fun j hj => by have:=(hv2 j hj).1;omega)
        have hb3:=Below.setCell hb2 (p:=⟨w.heap.size,1,none⟩) (Nat.le_refl _) (.slice A2 (ps.length + 1) c2);have hC3:=Lib.hid (N9 hC2 1 (.slice A2 (ps.length + 1) c2));have hI3:=Lib.hid (show (w2.setCell ⟨w.heap.size,1,none⟩ (.slice A2 (ps.length + 1) c2)).heap[w.heap.size + 1]? = some (.stringIter T (k + 1)) from (heap_setCell_other _ _ _ _ (by simp)).trans hI2)
        have hO3:=Lib.hid ((HgO1.out.kept fun g hg => hbl g (HgO1.out.lt g hg).2 (Hgd.out g hg)).setLow (show (⟨w.heap.size,1,none⟩ : Addr).block < w.heap.size + 2 by simp) (.slice A2 (ps.length + 1) c2))
        have hP3:=Lib.hid (hown2.setLow (show (⟨w.heap.size,1,none⟩ : Addr).block < w.heap.size + 2 by simp) (.slice A2 (ps.length + 1) c2))
        have hd3 := Lib.hid (show ∀ g, g ∈ fp9 → g ∉ fp2 from fun g hg hg' => by
             rcases hf2 g hg' with h | h | h
             ·exact Hgd.out g hg h
             ·cases h
             ·have:=(HgO1.out.lt g hg).2
              simp at h;omega)
        have cz' : w2.cell? ⟨w.heap.size,1,none⟩ = some (.slice Ap9 ps.length cp9):=cz;clear hC2 hI2 hbl nC nI hg2 hf2 hv2 hown2 hnew TA T0 hb2 cz c1 f1 hbi HgC HgI HgO1 HgO2 Hgd;refine ⟨fun _ => cz',LexW.cons rfl ?_⟩
        try go_frame
        go_wp2_with fail;refine ⟨fun _ => cz',LexW.cons rfl ?_⟩
        try go_frame
        go_wp2_with fail;refine ⟨fun h => absurd rfl h,LexW.nil ?_⟩
        have kz : (k : Int) < 2000000:=by have:=HTS.out;omega
        have HN:=Lib.hid (hrun.out.part HG.out hm (by rw [List.length_map];exact HMK.out) h59)
        have hp4 : ps.length + 1 ≤ 4 := by
             have : ps.length ≠ 4:=fun e => h59 (by rw [HMK.out,e];rfl)
             omega
        have hsz' := Lib.hid (show ∀ (i : Nat) (x : ByteArray), (ps ++ [s.extract f k])[i]? = some x → x.size ≤ T.size from fun i x hx => by
             rcases List.mem_append.1 (List.mem_of_getElem? hx) with h | h
             ·obtain ⟨i',hi'⟩:=List.mem_iff_getElem?.1 h
              exact hsz.out i' x hi'
             ·rw [List.mem_singleton.1 h];exact hxz)
        clear h59;go_wp2_with fail;go_roundw
        case rel => exact ⟨k + 1,k + 1,ps ++ [s.extract f k],xs,by go_num,by omega,by omega,by omega,by simp;omega,Lib.hid ⟨_,A2,c2,fp9,fp2,by rw [List.length_append];exact hC3.out,hI3.out,hO3.out,by rw [List.length_append];exact hP3.out,hd3.out⟩,Lib.hid (by rw [List.map_append,List.map_cons,List.map_nil,HX.out];exact HN.out),hsz',hb3⟩
        case measure => rw [HPOS.out];unfold World.iterPos;rw [hI3.out];simp;omega
       ·have dm : ((b.toNat : Int) != ((Cn9 ps.length).toNat : Int)) = true:=by simp;exact fun e => hmk (UInt8.toNat_inj.1 (by omega))
        have HN:=Lib.hid (hrun.out.bad HG.out hm (by rw [List.length_map];exact hmk))
        clear hmk;go_wp2_with fail;go_ret2
        exact .inl ⟨HN.out,⟨_,rfl⟩,hbi⟩
      ·have h59 : b = 59:=by rcases h3 with h | h | h <;> first | exact h | exact absurd h h58 | exact absurd h h47
       have d58 : ((b.toNat : Int) != (58 : Int)) = true:=by simp;exact fun e => h58 (UInt8.toNat_inj.1 (by show b.toNat = 58;omega))
       have d47 : ((b.toNat : Int) != (47 : Int)) = true:=by simp;exact fun e => h47 (UInt8.toNat_inj.1 (by show b.toNat = 47;omega))
       have d59 : ((b.toNat : Int) != (59 : Int)) = false:=by rw [h59];rfl
       have HB:=Lib.hid h59;have e59 : ((b.toNat : Int) == (59 : Int)) = true:=by rw [h59];rfl
       clear h59;have hC1:=(hmv (k + 1));obtain ⟨vd9,Ap9,cp9,fp9,fq9,gC,gI,gO1,gO2,gd⟩:=hC1;have c1 : (wr.iterAt (w.heap.size + 1) T (k + 1)).cell? ⟨w.heap.size,1,none⟩ = some (.slice Ap9 ps.length cp9):=E9 gC 1;have f1:=C9 gC 1;have hbi : Below w.heap.size w (wr.iterAt (w.heap.size + 1) T (k + 1)):=below_iterAt hb (by omega) _ _
       have HgC:=Lib.hid gC;have HgI:=Lib.hid gI;have HgO1:=Lib.hid gO1;have HgO2:=Lib.hid gO2;have Hgd:=Lib.hid gd;clear gC gI gO1 gO2 gd hb hmv;go_wp2_with fail;generalize hW : wr.iterAt (w.heap.size + 1) T (k + 1) = W1 at c1 f1 hbi HgC HgI HgO1 HgO2 ⊢;clear hW;refine (Pf9 w.heap.size Ap9 ps.length cp9 W1 c1).mono ?_;rintro e W2 ⟨rfl,rfl⟩;by_cases hmk : b = Cn9 ps.length
       ·have dm : ((b.toNat : Int) != ((Cn9 ps.length).toNat : Int)) = false:=by rw [hmk];simp
        have HMK:=Lib.hid hmk;clear hmk;have sk : k ≤ s.size:=by have:=HTS.out;omega
        have i3 : (f : Int) ≤ (k : Int):=by omega
        have i4 : (k : Int) ≤ (s.size : Int):=by omega
        have HX := Lib.hid (show bl (s.extract f k) = (T.data.toList.drop f).take (k - f) by
             unfold bl;rw [Bu9,HTL.out,List.drop_append_of_le_length (by simp;omega),List.take_append_of_le_length (by simp;omega)])
        have hxz : (s.extract f k).size ≤ T.size := by
             have h9:=congrArg List.length (Bu9 s f k);rw [List.length_take] at h9;have:=HTS.out;simp at h9 ⊢;omega
        have T0 : All (fun w' => Below w.heap.size w w'∧Rep.OwnRows stR 9 w' (w.heap.size + 2) (.slice Ap9 ps.length cp9) ps fq9∧w'.cell? ⟨w.heap.size,1,none⟩ = some (.slice Ap9 ps.length cp9)) W2:=⟨hbi,HgO2.out,c1⟩
        go_wp2_with fail;refine M9 9 [0,1,2,3,4,5] [6,7,8,9] (fun w' => w'.cell? ⟨w.heap.size,1,none⟩ = some (.slice Ap9 ps.length cp9)) (by kernel_rfl) (by kernel_rfl) T0.drew.out.2.2 ?_
        replace T0:=T0.drew;iterate 6 (refine LexR.cons rfl ?_ (fun w' hw => ?_) ?_;rotate_left;focus (go_simp;(try exact rfl));(try go_frame))
        refine LexR.nil (LexW.cons rfl ?_);go_wp2_with fail;have TA:=T0.alloc (.cells #[.string (s.extract f k)] 9);have hnew:=T7 W2.drew #[.string (s.extract f k)] 1 1 9 (g:=W2.drew.heap.size) rfl rfl (by simp [maxLen])
        refine ⟨fun _ => TA.out.2.2,LexW.cons rfl ?_⟩
        try go_frame
        refine Rep.wpList_push _ rfl (.tmp 32) (.tmp 37) _ rfl stR (w.heap.size + 2) 9 i0 _ 16 Tryz.underlying120 hi0 hz0 hz1 hz2 rfl (by decide) _ ps fq9 rfl TA.out.2.1 _ 1 _ (s.extract f k) [] rfl hnew (Hr9 rfl) ⟨rfl,rfl⟩ (fun g hg hg' => by cases hg) (by simp only [maxLen];omega) (by omega) (by have h8:=(Array.getElem?_eq_some_iff.1 HgI.out).1;simp;omega) ?_
        intro A2 c2 w2 fp2 hown2 hg2 hf2 hv2;have hIl:=(Array.getElem?_eq_some_iff.1 HgI.out).1;have hbl : ∀ g,g < W2.heap.size→g ∉ fq9→w2.heap[g]? = W2.heap[g]?:=fun g hg hn => (hg2.block g (by simp;omega) (fun e => hn (hv2 g e.symm).2)).trans (Below.heap_alloc W2.drew _ g hg)
        have nC : w.heap.size ∉ fq9:=fun e => absurd ((HgO2.out.lt _ e).1) (by omega)
        have nI : w.heap.size + 1 ∉ fq9:=fun e => absurd ((HgO2.out.lt _ e).1) (by omega)
        have hC2 : w2.heap[w.heap.size]? = some (.cells #[vd9,.slice Ap9 ps.length cp9] 153 (0,0)):=(hbl _ (by omega) nC).trans HgC.out
        have hI2 : w2.heap[w.heap.size + 1]? = some (.stringIter T (k + 1)):=(hbl _ (by omega) nI).trans HgI.out
        have cz:=E9 hC2 1;have fz:=C9 hC2 1;have hb2 : Below w.heap.size w w2:=TA.out.1.grown hg2 TA.out.1.size (fun j hj => by have:=(hv2 j hj).1;omega)
        have hb3:=Below.setCell hb2 (p:=⟨w.heap.size,1,none⟩) (Nat.le_refl _) (.slice A2 (ps.length + 1) c2);have hC3:=Lib.hid (N9 hC2 1 (.slice A2 (ps.length + 1) c2));have hI3:=Lib.hid (show (w2.setCell ⟨w.heap.size,1,none⟩ (.slice A2 (ps.length + 1) c2)).heap[w.heap.size + 1]? = some (.stringIter T (k + 1)) from (heap_setCell_other _ _ _ _ (by simp)).trans hI2)
        have hO3:=Lib.hid ((HgO1.out.kept fun g hg => hbl g (HgO1.out.lt g hg).2 (Hgd.out g hg)).setLow (show (⟨w.heap.size,1,none⟩ : Addr).block < w.heap.size + 2 by simp) (.slice A2 (ps.length + 1) c2))
        have hP3:=Lib.hid (hown2.setLow (show (⟨w.heap.size,1,none⟩ : Addr).block < w.heap.size + 2 by simp) (.slice A2 (ps.length + 1) c2))
        have hd3 := Lib.hid (show ∀ g, g ∈ fp9 → g ∉ fp2 from fun g hg hg' => by
             rcases hf2 g hg' with h | h | h
             ·exact Hgd.out g hg h
             ·cases h
             ·have:=(HgO1.out.lt g hg).2
              simp at h;omega)
        have cz' : w2.cell? ⟨w.heap.size,1,none⟩ = some (.slice Ap9 ps.length cp9):=cz;clear hC2 hI2 hbl nC nI hg2 hf2 hv2 hown2 hnew TA T0 hb2 cz c1 f1 hbi HgC HgI HgO1 HgO2 Hgd;refine ⟨fun _ => cz',LexW.cons rfl ?_⟩
        try go_frame
        go_wp2_with fail;refine ⟨fun _ => cz',LexW.cons rfl ?_⟩
        try go_frame
        go_wp2_with fail;refine ⟨fun h => absurd rfl h,LexW.nil ?_⟩
        have kz : (k : Int) < 2000000:=by have:=HTS.out;omega
        go_wp2_with fail;have h4 : ps.length = 4:=Classical.byContradiction fun h => (Ti9 _).2 h (by rw [← HB.out];exact HMK.out)
        have hp5 : (ps ++ [s.extract f k]).length = 5:=by rw [List.length_append,h4];rfl
        have hln : (ps ++ [s.extract f k]).length = ps.length + 1:=by rw [List.length_append];rfl
        have hsz' := Lib.hid (show ∀ (i : Nat) (x : ByteArray), (ps ++ [s.extract f k])[i]? = some x → x.size ≤ 100000000 from fun i x hx => by
             rcases List.mem_append.1 (List.mem_of_getElem? hx) with h | h
             ·obtain ⟨i',hi'⟩:=List.mem_iff_getElem?.1 h
              have:=hsz.out i' x hi';have:=HTS.out;omega
             ·rw [List.mem_singleton.1 h]
              have:=HTS.out;omega)
        have hrow5:=hP3.out.reads;obtain ⟨A5,c5,e5,_,_,hrow5⟩:=hrow5;injection e5 with e5 e5n e5c;subst e5 e5c;clear e5n;have hI3l:=(Array.getElem?_eq_some_iff.1 hI3.out).1;have E:=Bv8 w.heap.size A2 c2 vd9 (ps ++ [s.extract f k]) xs fp9 (w.heap.size + 2) _ (HT.out.below hb3) hp5 hsz'.out (by rw [hln];exact hC3.out) hrow5 hO3.out (by omega) (by omega) hI3l
        have HNn:=Lib.hid (fun (h : Fg9 ((ps ++ [s.extract f k]).map bl) = none) => hrun.out.none (HB.out ▸ HG.out) (by rw [List.length_map,h4];rfl) (by rw [← HX.out];simpa using h))
        have HNs:=Lib.hid (fun (d : Db) (h : Fg9 ((ps ++ [s.extract f k]).map bl) = some d) => hrun.out.some (d:=d) (HB.out ▸ HG.out) (by rw [List.length_map,h4];rfl) (by rw [← HX.out];simpa using h))
        have nI9 : w.heap.size + 1 ∉ fp9:=fun e => absurd ((hO3.out.lt _ e).1) (by omega)
        clear h4 hp5 hln hrow5 hm e59;have e59 : ((b.toNat : Int) == (59 : Int)) = true:=by rw [HB.out];rfl
        have HE:=Lib.hid E;clear E;refine HE.out.mono ?_;rintro e W5 (⟨hn,rfl,hbb⟩ | ⟨vd',fp',hsome,rfl,hC6,hO6,hoth,hbb⟩)
        ·have hbf:=hb3.trans hbb
         have HNN:=Lib.hid (HNn.out hn);clear HE hbb hn;go_wp2_with fail;go_ret2
         exact .inl ⟨HNN.out,⟨_,rfl⟩,hbf⟩
        ·have hbf:=hb3.trans hbb
         have hI6:=Lib.hid ((hoth _ hI3l (by omega) nI9).trans hI3.out)
         have HCC:=Lib.hid hC6;have HOO:=Lib.hid hO6;have HN:=Lib.hid (HNs.out _ hsome);clear HE hbb hoth hC6 hO6 hsome;go_wp2_with fail;go_roundw
         case rel => exact ⟨k + 1,k + 1,[],xs ++ [dbI (ps ++ [s.extract f k])],by go_num,by omega,by omega,by simp;omega,by simp,Lib.hid ⟨vd',none,0,fp',[],HCC.out,hI6.out,HOO.out,⟨[],[],⟨by simp,.inl ⟨rfl,rfl⟩⟩,rfl,fun i x f hx => by simp at hx,rfl,by simp⟩,fun g hg => by simp⟩,HN,Lib.hid (fun i x h => by simp at h),hbf⟩
         case measure => rw [HPOS.out];unfold World.iterPos;rw [hI6.out];simp;omega
       ·have dm : ((b.toNat : Int) != ((Cn9 ps.length).toNat : Int)) = true:=by simp;exact fun e => hmk (UInt8.toNat_inj.1 (by omega))
        have HN:=Lib.hid (hrun.out.bad HG.out hm (by rw [List.length_map];exact hmk))
        clear hmk;go_wp2_with fail;go_ret2
        exact .inl ⟨HN.out,⟨_,rfl⟩,hbi⟩
    ·have hm' : Du9 b = false:=by simpa using hm
     have hm2:=hm';unfold Du9 at hm2;simp only [Bool.or_eq_false_iff,beq_eq_false_iff_ne] at hm2;obtain ⟨⟨q1,q2⟩,q3⟩:=hm2;have d1 : ((b.toNat : Int) != (58 : Int)) = true:=by simp;exact fun e => q1 (UInt8.toNat_inj.1 (by show b.toNat = 58;omega))
     have d2 : ((b.toNat : Int) != (47 : Int)) = true:=by simp;exact fun e => q2 (UInt8.toNat_inj.1 (by show b.toNat = 47;omega))
     have d3 : ((b.toNat : Int) != (59 : Int)) = true:=by simp;exact fun e => q3 (UInt8.toNat_inj.1 (by show b.toNat = 59;omega))
     have HN:=Lib.hid (hrun.out.skip HG.out hm');clear q1 q2 q3 hm hm';go_wp2_with fail;go_roundw
     case rel => exact ⟨k + 1,f,ps,xs,rfl,by omega,by omega,by omega,hps,Lib.hid (hmv _),HN,hsz,below_iterAt hb (by omega) _ _⟩
     case measure => rw [HPOS.out];unfold World.iterPos;rw [iterAt_heap _ _ _ _ _ HI.out];simp;omega
   ·have ha' : 128 ≤ T[k].toNat:=by omega
    have hnx:=fun ty => run_next_any_at (P:=Tryz.prog) wr (w.heap.size + 1) T k ty HI.out hlt
    obtain ⟨hhi,hw1⟩:=decode_high T k hlt ha';obtain ⟨hw2,hw3⟩:=Wz9 T k hlt ha';have hle:=decode_le T k;obtain ⟨r,hr⟩ : ∃ r,(Utf8.decode T k).1 = r:=⟨_,rfl⟩;obtain ⟨d,hd⟩ : ∃ d,(Utf8.decode T k).2 = d:=⟨_,rfl⟩;rw [hr] at hhi hle hnx;rw [hd] at hw1 hw2 hw3 hnx;have HN:=Lib.hid (hrun.out.skips d k (fun i hi => ⟨T.get! (k + i),by rw [Dn8 (show k + i < T.size by omega)];exact Jz9 T (k + i) (by omega),Bi8 (hw3 i hi)⟩))
    clear hr hd hw3 ha ha';have d1 : ((r : Int) != (58 : Int)) = true:=by simp;omega
    have d2 : ((r : Int) != (47 : Int)) = true:=by simp;omega
    have d3 : ((r : Int) != (59 : Int)) = true:=by simp;omega
    go_wp2_with fail;go_roundw
    case rel => exact ⟨k + d,f,ps,xs,rfl,by omega,by omega,by omega,hps,Lib.hid (hmv _),HN,hsz,below_iterAt hb (by omega) _ _⟩
    case measure => rw [HPOS.out];unfold World.iterPos;rw [iterAt_heap _ _ _ _ _ HI.out];simp;omega
  ·have hnx:=fun ty => run_next_end_at (P:=Tryz.prog) wr (w.heap.size + 1) T k ty HI.out hlt
   have HA := Lib.hid (show Gq9 T.data.toList [] [] [] = some xs by
       have he : k = T.data.toList.length:=by simp;omega
       have h9:=hrun.out;rw [he] at h9;exact h9.all)
   obtain ⟨A9,c9,hvd,_,_,_⟩:=HO1.out.reads;have hO9:=Lib.hid (show Rep.OwnRows dbR 132 wr w.heap.size (.slice A9 xs.length c9) xs fp by rw [← hvd];exact HO1.out.low (by omega))
   have c0 : wr.cell? ⟨w.heap.size,0,none⟩ = some (.slice A9 xs.length c9):=by rw [← hvd];exact E9 HC.out 0
   clear hvd;go_wp2_with fail;go_ret2
   exact .inr ⟨A9,c9,xs,fp,HA.out,rfl,hO9.out,hb⟩
end Go.Proofs.YthpkdjflndiojaaGreatDoor
