/- What the theorem needs, out of many texts. -/
import Derived.Test.YthpkdjflndiojaaGreatDoorShj9
set_option maxHeartbeats 20000000
namespace Go.Proofs.YthpkdjflndiojaaGreatDoor
open Go.RowKit
set_option maxRecDepth 100000
set_option linter.unusedVariables false
noncomputable def Gb9 (b : List UInt8) : (Int × Int × Rec) × Bool:=if Fb9 b = true then ((S8 b 0,S8 b 2,Cg9 b),true) else ((0,0,N8),false)
def RetGet (w : World) (p : (Int × Int × Rec) × Bool) (e : Ending) (w' : World) : Prop:=e = .returned (.tuple #[.int .i64 p.1.1,.int .i64 p.1.2.1,.agg (M8 p.1.2.2).toArray,.bool p.2])∧Below w.heap.size w w'
theorem Jk9 {b : List UInt8} (h : Fb9 b = false) : Gb9 b = ((0,0,N8),false):=if_neg (by rw [h];decide)
theorem Vx9 {b : List UInt8} (h : Fb9 b = true) : Gb9 b = ((S8 b 0,S8 b 2,Cg9 b),true):=if_pos h
theorem Nm9 {b : List UInt8} (h : b.length < 11) : Fb9 b = false:=by
 unfold Fb9;rw [decide_eq_false (by omega)]
 rfl
theorem Pt9 {b : List UInt8} (h : 11 ≤ b.length) : Fb9 b = (Ah9 (S8 b 0) (S8 b 2) (Cg9 b) == b):=by
 unfold Fb9;rw [decide_eq_true h];rfl
theorem Pp9 (b : List UInt8) (p : Int) : (gtS b p).size ≤ 100:=by
 have:=Jh9 (Dl8 b p);simpa using this
theorem Mr9 {b : List UInt8} {p : Nat} (h : p + 2 ≤ b.length) : Eq9 b (p : Int) = (p : Int) + 2:=by
 unfold Eq9;rw [if_pos];unfold Jr9;simp;omega
theorem Jl9 {b : List UInt8} {k : Nat} {u : UInt8} (h : b[k]? = some u) : b.getD k 0 = u:=by simp [List.getD,h]
theorem Qy9 {b : List UInt8} (h : gtB b 8 = false) : Fb9 b = false:=by
 cases hg : Fb9 b with
 | false => rfl
 | true => have h2:=Ps9 hg;rw [h] at h2;cases h2
theorem Tq9 {b : List UInt8} {r : Rec} (hr : Cg9 b = r) (h : Ak9 r = false) : Fb9 b = false:=by
 cases hg : Fb9 b with
 | false => rfl
 | true => have h2:=Bq8 hg;rw [hr,h] at h2;cases h2
theorem Ms9 {b : List UInt8} {gen pl : Int} {r : Rec} {y : Bool} (hl : 11 ≤ b.length) (h1 : S8 b 0 = gen) (h2 : S8 b 2 = pl) (h3 : Cg9 b = r) (hy : (Ah9 gen pl r == b) = y) : Fb9 b = y:=by
 rw [Pt9 hl,h1,h2,h3];exact hy
theorem Yx9 (A B : Option Addr) (c c' M M' : Nat) (a b : List UInt8) (w : World) (h : Reads w M 1 A a.length (bys a)) (h' : Reads w M' 1 B b.length (bys b)) :
 Calls Tryz.prog 97 #[.slice A a.length c,.slice B b.length c'] w fun e w' => e = .returned (.bool (a == b))∧w = w':=by
 have h1:=string_run (P:=Tryz.prog) (c:=c) Tryz.underlying22 Tryz.underlying5 Tryz.underlying9 h;have h2:=string_run (P:=Tryz.prog) (c:=c') Tryz.underlying22 Tryz.underlying5 Tryz.underlying9 h';refine (Tryz.bytes_Equal_strs _ _ _ _ w h1 h2).mono ?_;rintro e w' ⟨rfl,rfl⟩;exact ⟨by simp [Lib.toList_data],rfl⟩
theorem Reads.two {w : World} {B n i j : Nat} {A : Option Addr} {l : List UInt8} (h : Reads w B 1 A n (bys l)) (hi : i < n) (hj : j < n) :
 ∃ b off u v,A = some ⟨b,off,none⟩∧l[i]? = some u∧l[j]? = some v∧w.cell? ⟨b,off + i,none⟩ = some (.int .u8 (u.toNat : Int))∧w.cell? ⟨b,off + j,none⟩ = some (.int .u8 (v.toNat : Int)):=by
 obtain ⟨b,off,u,hA,_,hu,hc⟩:=h.byte hi;obtain ⟨b',off',v,hA',_,hv,hc'⟩:=h.byte hj;rw [hA] at hA';injection hA' with hA';injection hA' with h1 h2;subst h1 h2;exact ⟨b,off,u,v,hA,hu,hv,hc,hc'⟩
theorem Al9 {w : World} {g b i j : Nat} {u v : Value} (h : w.cell? ⟨b,j,none⟩ = some v) (hne : g ≠ b) : (w.setCell ⟨g,i,none⟩ u).cell? ⟨b,j,none⟩ = some v:=
 (World.cell?_setCell_other w ⟨g,i,none⟩ ⟨b,j,none⟩ u (fun e => by cases e;exact hne rfl)).trans h
def GB (w : World) (A : Option Addr) (l : List UInt8) (w' : World) : Prop:=Below w.heap.size w w'∧Given w'∧Hid (w'.heap[w.heap.size]? = some (.cells (M8 N8).toArray 29 (0,0)))∧Reads w' w'.heap.size 1 A l.length (bys l)∧w.heap.size < w'.heap.size
instance GB.keeps (w : World) (A : Option Addr) (l : List UInt8) : Keeps (GB w A l):=⟨fun h x => ⟨Later.trans x.1 h,Keeps.keeps (F:=Given) h x.2.1,Lib.hid (Keeps.keeps (F:=fun w' => w'.heap[w.heap.size]? = some (.cells (M8 N8).toArray 29 (0,0))) h x.2.2.1.out),Keeps.keeps (F:=fun w' => Reads w' w'.heap.size 1 A l.length (bys l)) h x.2.2.2.1,Nat.lt_of_lt_of_le x.2.2.2.2 h.size⟩⟩
set_option maxRecDepth 100000 in
theorem Vv9 (A : Option Addr) (c : Nat) (l : List UInt8) (w : World) (hl : l.length < 11) : Calls Tryz.prog 73 #[.slice A l.length c] w (RetGet w (Gb9 l)):=by
 rw [Jk9 (Nm9 hl)];have i1 : (l.length : Int) < 11:=by omega
 clear hl;go_enter Tryz.func73,Tryz.ntmps73
 go_wp2_with fail;refine bodyPost_ret (v:=.tuple #[.int .i64 0,.int .i64 0,.agg #[.int .i64 0,.int .i64 0,.int .i64 0,.string ⟨#[]⟩],.bool false]) (by simp [results,Tryz.results73,go_sem]) rfl ⟨rfl,Later.alloc w _⟩
set_option maxRecDepth 100000 in
theorem Yf9 (A : Option Addr) (c : Nat) (l : List UInt8) (w : World) (h : Reads w w.heap.size 1 A l.length (bys l)) (hn : l.length ≤ 1048576) (hc : l.length ≤ c) (hg : Given w) (hl : 11 ≤ l.length) : Calls Tryz.prog 73 #[.slice A l.length c] w (RetGet w (Gb9 l)) := by
  have S : All (GB w A l) (w.alloc (.cells #[.int .i64 0,.int .i64 0,.int .i64 0,.string ⟨#[]⟩] 29)):=⟨Later.alloc w _,Keeps.keeps (F:=Given) (Later.alloc w _) hg,Lib.hid (heap_alloc_new w _),h.up _,by simp⟩
  have i1 : ¬ (l.length : Int) < 11:=by omega
  clear h hg
  obtain ⟨gen,hgen⟩ : ∃ x,S8 l 0 = x:=⟨_,rfl⟩
  obtain ⟨pl,hpl⟩ : ∃ x,S8 l 2 = x:=⟨_,rfl⟩
  obtain ⟨n,hnn⟩ : ∃ x,S8 l 5 = x:=⟨_,rfl⟩
  obtain ⟨s,hs⟩ : ∃ x,gtS l 8 = x:=⟨_,rfl⟩
  obtain ⟨t,ht⟩ : ∃ x,gtB l 8 = x:=⟨_,rfl⟩
  obtain ⟨b0,o0,u,v,hA0,hu,hv,q1,q2⟩:=S.out.2.2.2.1.two (i:=4) (j:=7) (by omega) (by omega)
  have HR:=Lib.hid (show Cg9 l = ⟨(u.toNat : Int),n,(v.toNat : Int),s⟩ by unfold Cg9;rw [Jl9 hu,Jl9 hv,hnn,hs])
  have HGen:=Lib.hid hgen
  have HPl:=Lib.hid hpl
  have HN:=Lib.hid hnn
  have HS:=Lib.hid hs
  have HT:=Lib.hid ht
  have HSZ:=Lib.hid (show s.size ≤ 100 by rw [← hs];exact Pp9 l 8)
  have HU:=Lib.hid hu
  have HV:=Lib.hid hv
  have HLEN:=Lib.hid hl
  clear hgen hpl hnn hs ht hu hv hA0 q1 q2
  go_enter Tryz.func73,Tryz.ntmps73
  go_wp2_with fail
  generalize w.alloc (.cells #[.int .i64 0,.int .i64 0,.int .i64 0,.string ⟨#[]⟩] 29) = W at S ⊢
  refine (Ee9 A c 0 l W S.out.2.2.2.1 (by omega)).mono ?_
  rw [HGen.out]
  rintro e W1 ⟨rfl,n1,rfl⟩
  replace S:=S.later (Later.drewN W n1)
  generalize W.drewN n1 = W1 at S ⊢
  go_wp2_with fail
  refine (Ee9 A c 2 l W1 S.out.2.2.2.1 (by omega)).mono ?_
  rw [HPl.out]
  rintro e W2 ⟨rfl,n2,rfl⟩
  replace S:=S.later (Later.drewN W1 n2)
  generalize W1.drewN n2 = W2 at S ⊢
  go_wp2_with fail
  refine (Ee9 A c 5 l W2 S.out.2.2.2.1 (by omega)).mono ?_
  rw [HN.out]
  rintro e W3 ⟨rfl,n3,rfl⟩
  replace S:=S.later (Later.drewN W2 n3)
  generalize W2.drewN n3 = W3 at S ⊢
  go_wp2_with fail
  refine (Tp9 A c 8 l W3 S.out.2.2.2.1 (by omega) hc).mono ?_
  rw [HS.out,HT.out]
  rintro e W4 ⟨rfl,rfl⟩
  have i4 : (4 : Int) < (l.length : Int):=by omega
  have i7 : (7 : Int) < (l.length : Int):=by omega
  obtain ⟨b,off,u',v',rfl,hu',hv',cu,cv⟩:=S.out.2.2.2.1.two (i:=4) (j:=7) (by omega) (by omega)
  obtain rfl : u = u':=by have:=HU.out;rw [hu'] at this;injection this with this;exact this.symm
  obtain rfl : v = v':=by have:=HV.out;rw [hv'] at this;injection this with this;exact this.symm
  have hub : u.toNat < 256:=u.toNat_lt
  have hvb : v.toNat < 256:=v.toNat_lt
  clear hu' hv'
  go_wp2_with fail
  refine M9 100 [0,1,2,3,4,5,6,7,8,9,10] [11,12] (fun w' => w'.cell? ⟨b,off + 4,none⟩ = some (.int .u8 (u.toNat : Int))∧w'.cell? ⟨b,off + 7,none⟩ = some (.int .u8 (v.toNat : Int))) (by kernel_rfl) (by kernel_rfl) ⟨cu,cv⟩ ?_
  -- the struct
  replace S:=S.drew
  replace cu : W3.drew.cell? ⟨b,off + 4,none⟩ = some (.int .u8 (u.toNat : Int)):=cu
  replace cv : W3.drew.cell? ⟨b,off + 7,none⟩ = some (.int .u8 (v.toNat : Int)):=cv
  generalize W3.drew = W4 at S cu cv ⊢
  iterate 11 (refine LexR.cons rfl ?_ (fun w' hw => ?_) ?_;rotate_left;focus (obtain ⟨e0,e1⟩:=hw;go_simp;(try exact rfl));(try go_frame))
  refine LexR.nil (LexW.cons rfl ?_)
  go_wp2_with fail
  refine ⟨fun _ => ⟨Keeps.keeps (F:=fun w' => w'.cell? ⟨b,off + 4,none⟩ = some (.int .u8 (u.toNat : Int))) (Later.alloc W4 _) cu,Keeps.keeps (F:=fun w' => w'.cell? ⟨b,off + 7,none⟩ = some (.int .u8 (v.toNat : Int))) (Later.alloc W4 _) cv⟩,LexW.cons rfl ?_⟩
  try go_frame
  go_wp2_with fail
  refine ⟨fun _ => ⟨Keeps.keeps (F:=fun w' => w'.cell? ⟨b,off + 4,none⟩ = some (.int .u8 (u.toNat : Int))) (Later.alloc W4 _) cu,Keeps.keeps (F:=fun w' => w'.cell? ⟨b,off + 7,none⟩ = some (.int .u8 (v.toNat : Int))) (Later.alloc W4 _) cv⟩,LexW.nil ?_⟩
  have HD:=Lib.hid (show w.heap.size ≠ W4.heap.size∧w.heap.size ≤ W4.heap.size from ⟨by have:=S.out.2.2.2.2;omega,by have:=S.out.2.2.2.2;omega⟩)
  replace S:=S.alloc (.cells #[.int .i64 (u.toNat : Int),.int .i64 n,.int .i64 (v.toNat : Int),.string s] 29)
  have V:=Lib.hid (heap_alloc_new W4 (.cells #[.int .i64 (u.toNat : Int),.int .i64 n,.int .i64 (v.toNat : Int),.string s] 29))
  clear cu cv
  generalize W4.alloc (.cells #[.int .i64 (u.toNat : Int),.int .i64 n,.int .i64 (v.toNat : Int),.string s] 29) = W5 at S V ⊢
  generalize W4.heap.size = D at HD V ⊢
  skip
  cases t
  · have HH := Lib.hid (Qy9 HT.out)
    have HF:=Lib.hid (HH.out)
    obtain ⟨z0,z1,z2,z3⟩:=J9 S.out.2.2.1.out
    have zf0:=C9 S.out.2.2.1.out 0
    have zf1:=C9 S.out.2.2.1.out 1
    have zf2:=C9 S.out.2.2.1.out 2
    have zf3:=C9 S.out.2.2.1.out 3
    have hbe:=S.out.1
    have hsz:=S.out.2.2.2.2
    clear S hub hvb
    go_wp2_with fail
    refine bodyPost_ret (v:=.tuple #[.int .i64 0,.int .i64 0,.agg #[.int .i64 0,.int .i64 0,.int .i64 0,.string ⟨#[]⟩],.bool false]) (by simp [results,Tryz.results73,go_sem,z0,z1,z2,z3]) rfl ⟨by rw [Jk9 HF.out];rfl,?_⟩
    exact ((((hbe.setCell (p:=⟨w.heap.size,0,none⟩) (Nat.le_refl _) _).setCell (p:=⟨w.heap.size,1,none⟩) (Nat.le_refl _) _).setCell (p:=⟨w.heap.size,2,none⟩) (Nat.le_refl _) _).setCell (p:=⟨w.heap.size,3,none⟩) (Nat.le_refl _) _)
  · obtain ⟨d0, d1, d2, d3⟩ := J9 (r := ⟨(u.toNat : Int), n, (v.toNat : Int), s⟩) V.out
    go_wp2_with fail
    refine (By9 ⟨(u.toNat : Int),n,(v.toNat : Int),s⟩ W5).mono ?_
    obtain ⟨k,hk⟩ : ∃ k,Ak9 ⟨(u.toNat : Int),n,(v.toNat : Int),s⟩ = k:=⟨_,rfl⟩
    rw [hk]
    rintro e W6 ⟨rfl,hb⟩
    replace S:=S.later hb
    replace V:=Lib.hid (Keeps.keeps (F:=fun w' => w'.heap[D]? = some (.cells (M8 ⟨(u.toNat : Int),n,(v.toNat : Int),s⟩).toArray 29 (0,0))) hb V.out)
    have HK:=Lib.hid hk
    clear hb hk d0 d1 d2 d3
    cases k
    · have HH := Lib.hid (Tq9 HR.out HK.out)
      have HF:=Lib.hid (HH.out)
      obtain ⟨z0,z1,z2,z3⟩:=J9 S.out.2.2.1.out
      have zf0:=C9 S.out.2.2.1.out 0
      have zf1:=C9 S.out.2.2.1.out 1
      have zf2:=C9 S.out.2.2.1.out 2
      have zf3:=C9 S.out.2.2.1.out 3
      have hbe:=S.out.1
      have hsz:=S.out.2.2.2.2
      clear S hub hvb
      go_wp2_with fail
      refine bodyPost_ret (v:=.tuple #[.int .i64 0,.int .i64 0,.agg #[.int .i64 0,.int .i64 0,.int .i64 0,.string ⟨#[]⟩],.bool false]) (by simp [results,Tryz.results73,go_sem,z0,z1,z2,z3]) rfl ⟨by rw [Jk9 HF.out];rfl,?_⟩
      exact ((((hbe.setCell (p:=⟨w.heap.size,0,none⟩) (Nat.le_refl _) _).setCell (p:=⟨w.heap.size,1,none⟩) (Nat.le_refl _) _).setCell (p:=⟨w.heap.size,2,none⟩) (Nat.le_refl _) _).setCell (p:=⟨w.heap.size,3,none⟩) (Nat.le_refl _) _)
    · obtain ⟨d0, d1, d2, d3⟩ := J9 (r := ⟨(u.toNat : Int), n, (v.toNat : Int), s⟩) V.out
      go_wp2_with fail
      refine (Mj9 gen pl ⟨(u.toNat : Int),n,(v.toNat : Int),s⟩ _ S.out.2.1 (by have:=HSZ.out;show s.size ≤ 1048576;omega)).mono ?_
      obtain ⟨x,hx⟩ : ∃ x,Ah9 gen pl ⟨(u.toNat : Int),n,(v.toNat : Int),s⟩ = x:=⟨_,rfl⟩
      rw [hx]
      rintro e W7 ⟨v7,rfl,o7,hb⟩
      replace S:=S.later hb
      replace V:=Lib.hid (Keeps.keeps (F:=fun w' => w'.heap[D]? = some (.cells (M8 ⟨(u.toNat : Int),n,(v.toNat : Int),s⟩).toArray 29 (0,0))) hb V.out)
      obtain ⟨A7,c7,rfl,_,_,r7,_⟩:=o7.shape
      obtain ⟨y,hy⟩ : ∃ y,(x == l) = y:=⟨_,rfl⟩
      have HY:=Lib.hid (show (Ah9 gen pl ⟨(u.toNat : Int),n,(v.toNat : Int),s⟩ == l) = y by rw [hx];exact hy)
      have HY2:=Lib.hid hy
      clear hb hx hy o7 d0 d1 d2 d3
      go_wp2_with fail
      refine (Pl9 A7 _ c7 c _ _ x l W7 r7 S.out.2.2.2.1).mono ?_
      rw [HY2.out]
      rintro e W8 ⟨rfl,rfl⟩
      clear r7
      cases y
      · have HH := Lib.hid (Ms9 HLEN.out HGen.out HPl.out HR.out HY.out)
        have HF:=Lib.hid (HH.out)
        obtain ⟨z0,z1,z2,z3⟩:=J9 S.out.2.2.1.out
        have zf0:=C9 S.out.2.2.1.out 0
        have zf1:=C9 S.out.2.2.1.out 1
        have zf2:=C9 S.out.2.2.1.out 2
        have zf3:=C9 S.out.2.2.1.out 3
        have hbe:=S.out.1
        have hsz:=S.out.2.2.2.2
        clear S hub hvb
        go_wp2_with fail
        refine bodyPost_ret (v:=.tuple #[.int .i64 0,.int .i64 0,.agg #[.int .i64 0,.int .i64 0,.int .i64 0,.string ⟨#[]⟩],.bool false]) (by simp [results,Tryz.results73,go_sem,z0,z1,z2,z3]) rfl ⟨by rw [Jk9 HF.out];rfl,?_⟩
        exact ((((hbe.setCell (p:=⟨w.heap.size,0,none⟩) (Nat.le_refl _) _).setCell (p:=⟨w.heap.size,1,none⟩) (Nat.le_refl _) _).setCell (p:=⟨w.heap.size,2,none⟩) (Nat.le_refl _) _).setCell (p:=⟨w.heap.size,3,none⟩) (Nat.le_refl _) _)
      · skip
        have HF:=Lib.hid (Ms9 HLEN.out HGen.out HPl.out HR.out HY.out)
        obtain ⟨z0,z1,z2,z3⟩:=J9 S.out.2.2.1.out
        have zf0:=C9 S.out.2.2.1.out 0
        have zf1:=C9 S.out.2.2.1.out 1
        have zf2:=C9 S.out.2.2.1.out 2
        have zf3:=C9 S.out.2.2.1.out 3
        have hbe:=S.out.1
        have hsz:=S.out.2.2.2.2
        obtain ⟨d0,d1,d2,d3⟩:=J9 (r:=⟨(u.toNat : Int),n,(v.toNat : Int),s⟩) V.out
        have hDn : w.heap.size ≠ D:=HD.out.1
        clear S hub hvb
        go_wp2_with fail
        refine M9 100 [0,1,2] [3,4,5,6] (fun w' => w'.cell? ⟨D,0,none⟩ = some (.int .i64 (u.toNat : Int))∧w'.cell? ⟨D,1,none⟩ = some (.int .i64 n)∧w'.cell? ⟨D,2,none⟩ = some (.int .i64 (v.toNat : Int))∧w'.cell? ⟨D,3,none⟩ = some (.string s)) (by kernel_rfl) (by kernel_rfl) ⟨d0,d1,d2,d3⟩ ?_
        iterate 3 (refine LexR.cons rfl ?_ (fun w' hw => ?_) ?_;rotate_left;focus (obtain ⟨e0,e1,e2,e3⟩:=hw;go_simp;(try exact rfl));(try go_frame))
        refine LexR.nil (LexW.cons rfl ?_)
        go_wp2_with fail
        refine ⟨fun _ => ⟨d0,d1,d2,d3⟩,LexW.cons rfl ?_⟩
        try go_frame
        go_wp2_with fail
        refine ⟨fun _ => ⟨d0,d1,d2,d3⟩,LexW.cons rfl ?_⟩
        try go_frame
        go_wp2_with fail
        refine ⟨fun _ => ⟨Al9 (Al9 (Al9 (Al9 d0 hDn) hDn) hDn) hDn,Al9 (Al9 (Al9 (Al9 d1 hDn) hDn) hDn) hDn,Al9 (Al9 (Al9 (Al9 d2 hDn) hDn) hDn) hDn,Al9 (Al9 (Al9 (Al9 d3 hDn) hDn) hDn) hDn⟩,LexW.cons rfl ?_⟩
        try go_frame
        go_wp2_with fail
        refine ⟨fun _ => ⟨Al9 (Al9 (Al9 (Al9 d0 hDn) hDn) hDn) hDn,Al9 (Al9 (Al9 (Al9 d1 hDn) hDn) hDn) hDn,Al9 (Al9 (Al9 (Al9 d2 hDn) hDn) hDn) hDn,Al9 (Al9 (Al9 (Al9 d3 hDn) hDn) hDn) hDn⟩,LexW.nil ?_⟩
        go_wp2_with fail
        refine bodyPost_ret (v:=.tuple #[.int .i64 gen,.int .i64 pl,.agg #[.int .i64 (u.toNat : Int),.int .i64 n,.int .i64 (v.toNat : Int),.string s],.bool true]) (by simp [results,Tryz.results73,go_sem,z0,z1,z2,z3]) rfl ⟨by rw [Vx9 HF.out,HGen.out,HPl.out,HR.out];rfl,?_⟩
        exact belowD ((((hbe.setCell (p:=⟨w.heap.size,0,none⟩) (Nat.le_refl _) _).setCell (p:=⟨w.heap.size,1,none⟩) (Nat.le_refl _) _).setCell (p:=⟨w.heap.size,2,none⟩) (Nat.le_refl _) _).setCell (p:=⟨w.heap.size,3,none⟩) (Nat.le_refl _) _) 1
theorem Ji9 (A : Option Addr) (c : Nat) (l : List UInt8) (w : World) (h : Reads w w.heap.size 1 A l.length (bys l)) (hn : l.length ≤ 1048576) (hc : l.length ≤ c) (hg : Given w) : Calls Tryz.prog 73 #[.slice A l.length c] w (RetGet w (Gb9 l)):=by
 by_cases hl : l.length < 11
 ·exact Vv9 A c l w hl
 ·exact Yf9 A c l w h hn hc hg (by omega)
structure GI (w : World) (r : Rec) (w' : World) : Prop where
 below : Below w.heap.size w w'
 zero : w'.heap[w.heap.size]? = some (.cells (M8 N8).toArray 29 (0,0))
 var : w'.heap[w.heap.size + 1]? = some (.cells (M8 r).toArray 29 (0,0))
instance GI.keeps (w : World) (r : Rec) : Keeps (GI w r):=⟨fun h x => ⟨Later.trans x.below h,(h.block _ (Array.getElem?_eq_some_iff.1 x.zero).1).trans x.zero,(h.block _ (Array.getElem?_eq_some_iff.1 x.var).1).trans x.var⟩⟩
theorem GI.set {w w' : World} {r : Rec} (h : GI w r w') (i : Nat) (u : Value) (r' : Rec) (hr : (M8 r).toArray.setIfInBounds i u = (M8 r').toArray) : GI w r' (w'.setCell ⟨w.heap.size + 1,i,none⟩ u):=
 ⟨h.below.setCell (p:=⟨w.heap.size + 1,i,none⟩) (Nat.le_succ _) _,(heap_setCell_other _ _ _ _ (by simp)).trans h.zero,by rw [← hr];exact N9 h.var i u⟩
set_option maxRecDepth 100000 in
theorem Vw9 (A : Option Addr) (c : Nat) (l : List UInt8) (w : World) (hl : l.length < 11) : Calls Tryz.prog 112 #[.slice A l.length c] w (RetGet w (Gb9 l)):=by
 rw [Jk9 (Nm9 hl)];have i1 : (l.length : Int) < 11:=by omega
 clear hl;go_enter Tryz.func112,Tryz.ntmps112
 go_wp2_with fail;refine bodyPost_ret (v:=.tuple #[.int .i64 0,.int .i64 0,.agg #[.int .i64 0,.int .i64 0,.int .i64 0,.string ⟨#[]⟩],.bool false]) (by simp [results,Tryz.results112,go_sem]) rfl ⟨rfl,?_⟩
 have hb:=Later.alloc w (.cells #[.int .i64 0,.int .i64 0,.int .i64 0,.string ⟨#[]⟩] 29);exact hb
set_option maxRecDepth 100000 in
theorem Yg9 (A : Option Addr) (c : Nat) (l : List UInt8) (w : World) (h : Reads w w.heap.size 1 A l.length (bys l)) (hn : l.length ≤ 1048576) (hc : l.length ≤ c) (hg : Given w) (hl : 11 ≤ l.length) : Calls Tryz.prog 112 #[.slice A l.length c] w (RetGet w (Gb9 l)):=by
 have HR0:=Lib.hid h;have HG:=Lib.hid hg;have i1 : ¬ (l.length : Int) < 11:=by omega
 have S : GI w N8 ((w.alloc (.cells #[.int .i64 0,.int .i64 0,.int .i64 0,.string ⟨#[]⟩] 29)).alloc (.cells #[.int .i64 0,.int .i64 0,.int .i64 0,.string ⟨#[]⟩] 29)):=⟨Later.trans (Later.alloc w _) (Later.alloc _ _),(Below.heap_alloc _ _ _ (by simp)).trans (heap_alloc_new w _),G9 _ _ (by simp)⟩
 obtain ⟨gen,hgen⟩ : ∃ x,S8 l 0 = x:=⟨_,rfl⟩;obtain ⟨pl,hpl⟩ : ∃ x,S8 l 2 = x:=⟨_,rfl⟩;obtain ⟨n,hnn⟩ : ∃ x,S8 l 5 = x:=⟨_,rfl⟩;obtain ⟨s,hs⟩ : ∃ x,gtS l 8 = x:=⟨_,rfl⟩;obtain ⟨b,off,u,v,rfl,hu,hv,c4,c7⟩:=h.two (i:=4) (j:=7) (by omega) (by omega)
 have HR:=Lib.hid (show Cg9 l = ⟨(u.toNat : Int),n,(v.toNat : Int),s⟩ by unfold Cg9;rw [Jl9 hu,Jl9 hv,hnn,hs])
 have HGen:=Lib.hid hgen;have HPl:=Lib.hid hpl;have HN:=Lib.hid hnn;have HS:=Lib.hid hs;have HSZ:=Lib.hid (show s.size ≤ 100 by rw [← hs];exact Pp9 l 8)
 have HLEN:=Lib.hid hl;have A0:=Lib.hid (show Eq9 l 0 = 2 from Mr9 (p:=0) (by omega))
 have A2:=Lib.hid (show Eq9 l 2 = 4 from Mr9 (p:=2) (by omega))
 have A5:=Lib.hid (show Eq9 l 5 = 7 from Mr9 (p:=5) (by omega))
 have i4 : (4 : Int) < (l.length : Int):=by omega
 have i7 : (7 : Int) < (l.length : Int):=by omega
 have hub : u.toNat < 256:=u.toNat_lt;have hvb : v.toNat < 256:=v.toNat_lt;have C4:=Lib.hid c4;have C7:=Lib.hid c7;clear hgen hpl hnn hs hu hv c4 c7 h hg;go_enter Tryz.func112,Tryz.ntmps112
 go_wp2_with fail;generalize (w.alloc (.cells #[.int .i64 0,.int .i64 0,.int .i64 0,.string ⟨#[]⟩] 29)).alloc (.cells #[.int .i64 0,.int .i64 0,.int .i64 0,.string ⟨#[]⟩] 29) = W at S ⊢;refine (Fa9 (some ⟨b,off,none⟩) c 0 l W ((HR0.out.below S.below).more S.below.size) (by omega)).mono ?_
 rw [HGen.out,A0.out];rintro e W1 ⟨rfl,n1,rfl⟩;replace S:=Keeps.keeps (F:=GI w N8) (Later.drewN W n1) S;generalize W.drewN n1 = W1 at S ⊢;go_wp2_with fail;refine (Fa9 (some ⟨b,off,none⟩) c 2 l W1 ((HR0.out.below S.below).more S.below.size) (by omega)).mono ?_
 rw [HPl.out,A2.out];rintro e W2 ⟨rfl,n2,rfl⟩;replace S:=Keeps.keeps (F:=GI w N8) (Later.drewN W1 n2) S;generalize W1.drewN n2 = W2 at S ⊢;have z0 : W2.cell? ⟨w.heap.size + 1,0,none⟩ = some (.int .i64 0):=E9 S.var 0;have f0:=C9 S.var 0;have q4 : W2.cell? ⟨b,off + 4,none⟩ = some (.int .u8 (u.toNat : Int)):=(S.below.cell (World.block_lt_of_cell? _ _ C4.out)).trans C4.out;go_wp2_with fail;replace S:=S.set 0 (.int .i64 (u.toNat : Int)) ⟨(u.toNat : Int),0,0,⟨#[]⟩⟩ rfl;clear z0 f0 q4;generalize W2.setCell ⟨w.heap.size + 1,0,none⟩ (.int .i64 (u.toNat : Int)) = W3 at S ⊢;refine (Fa9 (some ⟨b,off,none⟩) c 5 l W3 ((HR0.out.below S.below).more S.below.size) (by omega)).mono ?_
 rw [HN.out,A5.out];rintro e W4 ⟨rfl,n3,rfl⟩;replace S:=Keeps.keeps (F:=GI w ⟨(u.toNat : Int),0,0,⟨#[]⟩⟩) (Later.drewN W3 n3) S;generalize W3.drewN n3 = W4 at S ⊢;have z0 : W4.cell? ⟨w.heap.size + 1,1,none⟩ = some (.int .i64 0):=E9 S.var 1;have f0:=C9 S.var 1;have z1 : W4.cell? ⟨w.heap.size + 1,2,none⟩ = some (.int .i64 0):=E9 S.var 2;have f1:=C9 S.var 2;have q7 : W4.cell? ⟨b,off + 7,none⟩ = some (.int .u8 (v.toNat : Int)):=(S.below.cell (World.block_lt_of_cell? _ _ C7.out)).trans C7.out;have hbn : b < w.heap.size:=World.block_lt_of_cell? _ _ C7.out;go_wp2_with fail;replace S:=(S.set 1 (.int .i64 n) ⟨(u.toNat : Int),n,0,⟨#[]⟩⟩ rfl).set 2 (.int .i64 (v.toNat : Int)) ⟨(u.toNat : Int),n,(v.toNat : Int),⟨#[]⟩⟩ rfl;clear z0 f0 z1 f1 q7 hbn;generalize (W4.setCell ⟨w.heap.size + 1,1,none⟩ (.int .i64 n)).setCell ⟨w.heap.size + 1,2,none⟩ (.int .i64 (v.toNat : Int)) = W5 at S ⊢;refine (Vu9 (some ⟨b,off,none⟩) c 8 l W5 ((HR0.out.below S.below).more S.below.size) (by omega) hc).mono ?_
 rw [HS.out];rintro e W6 ⟨rfl,rfl⟩;have f3:=C9 S.var 3;obtain ⟨q0,q1,q2,q3⟩:=J9 S.var;go_wp2_with fail;replace S:=S.set 3 (.string s) ⟨(u.toNat : Int),n,(v.toNat : Int),s⟩ rfl;clear f3 q0 q1 q2 q3;generalize W5.setCell ⟨w.heap.size + 1,3,none⟩ (.string s) = W6 at S ⊢;refine (Rh9 gen pl ⟨(u.toNat : Int),n,(v.toNat : Int),s⟩ W6 (Keeps.keeps (F:=Given) S.below HG.out) (by have:=HSZ.out;show s.size ≤ 1048576;omega)).mono ?_
 obtain ⟨x,hx⟩ : ∃ x,Ah9 gen pl ⟨(u.toNat : Int),n,(v.toNat : Int),s⟩ = x:=⟨_,rfl⟩;rw [hx];rintro e W7 ⟨v7,rfl,o7,hb⟩;replace S:=Keeps.keeps (F:=GI w ⟨(u.toNat : Int),n,(v.toNat : Int),s⟩) hb S;obtain ⟨A7,c7,rfl,_,_,r7,_⟩:=o7.shape;obtain ⟨y,hy⟩ : ∃ y,(x == l) = y:=⟨_,rfl⟩;have HY:=Lib.hid (show (Ah9 gen pl ⟨(u.toNat : Int),n,(v.toNat : Int),s⟩ == l) = y by rw [hx];exact hy)
 have HY2:=Lib.hid hy;clear hb hx hy o7;go_wp2_with fail;refine (Yx9 A7 (some ⟨b,off,none⟩) c7 c _ _ x l W7 r7 ((HR0.out.below S.below).more S.below.size)).mono ?_;rw [HY2.out];rintro e W8 ⟨rfl,rfl⟩;clear r7;have HF:=Lib.hid (Ms9 HLEN.out HGen.out HPl.out HR.out HY.out);obtain ⟨z0,z1,z2,z3⟩:=J9 S.zero;have zf0:=C9 S.zero 0;have zf1:=C9 S.zero 1;have zf2:=C9 S.zero 2;have zf3:=C9 S.zero 3;have hbe:=S.below;have hsz : w.heap.size < W7.heap.size:=(Array.getElem?_eq_some_iff.1 S.zero).1;cases y
 ·clear S hub hvb
  go_wp2_with fail;refine bodyPost_ret (v:=.tuple #[.int .i64 0,.int .i64 0,.agg #[.int .i64 0,.int .i64 0,.int .i64 0,.string ⟨#[]⟩],.bool false]) (by simp [results,Tryz.results112,go_sem,z0,z1,z2,z3]) rfl ⟨by rw [Jk9 HF.out];rfl,?_⟩
  exact (((hbe.setCell (p:=⟨w.heap.size,0,none⟩) (Nat.le_refl _) _).setCell (p:=⟨w.heap.size,1,none⟩) (Nat.le_refl _) _).setCell (p:=⟨w.heap.size,2,none⟩) (Nat.le_refl _) _).setCell (p:=⟨w.heap.size,3,none⟩) (Nat.le_refl _) _
 ·obtain ⟨d0,d1,d2,d3⟩:=J9 S.var
  have hDn : w.heap.size ≠ w.heap.size + 1:=by omega
  clear S hub hvb;go_wp2_with fail;refine M9 100 [0,1,2] [3,4,5,6] (fun w' => w'.cell? ⟨w.heap.size + 1,0,none⟩ = some (.int .i64 (u.toNat : Int))∧w'.cell? ⟨w.heap.size + 1,1,none⟩ = some (.int .i64 n)∧w'.cell? ⟨w.heap.size + 1,2,none⟩ = some (.int .i64 (v.toNat : Int))∧w'.cell? ⟨w.heap.size + 1,3,none⟩ = some (.string s)) (by kernel_rfl) (by kernel_rfl) ⟨d0,d1,d2,d3⟩ ?_
  iterate 3 (refine LexR.cons rfl ?_ (fun w' hw => ?_) ?_;rotate_left;focus (obtain ⟨e0,e1,e2,e3⟩:=hw;go_simp;(try exact rfl));(try go_frame))
  refine LexR.nil (LexW.cons rfl ?_);go_wp2_with fail;refine ⟨fun _ => ⟨d0,d1,d2,d3⟩,LexW.cons rfl ?_⟩
  try go_frame
  go_wp2_with fail;refine ⟨fun _ => ⟨d0,d1,d2,d3⟩,LexW.cons rfl ?_⟩
  try go_frame
  go_wp2_with fail;refine ⟨fun _ => ⟨Al9 (Al9 (Al9 (Al9 d0 hDn) hDn) hDn) hDn,Al9 (Al9 (Al9 (Al9 d1 hDn) hDn) hDn) hDn,Al9 (Al9 (Al9 (Al9 d2 hDn) hDn) hDn) hDn,Al9 (Al9 (Al9 (Al9 d3 hDn) hDn) hDn) hDn⟩,LexW.cons rfl ?_⟩
  try go_frame
  go_wp2_with fail;refine ⟨fun _ => ⟨Al9 (Al9 (Al9 (Al9 d0 hDn) hDn) hDn) hDn,Al9 (Al9 (Al9 (Al9 d1 hDn) hDn) hDn) hDn,Al9 (Al9 (Al9 (Al9 d2 hDn) hDn) hDn) hDn,Al9 (Al9 (Al9 (Al9 d3 hDn) hDn) hDn) hDn⟩,LexW.nil ?_⟩
  go_wp2_with fail;refine bodyPost_ret (v:=.tuple #[.int .i64 gen,.int .i64 pl,.agg #[.int .i64 (u.toNat : Int),.int .i64 n,.int .i64 (v.toNat : Int),.string s],.bool true]) (by simp [results,Tryz.results112,go_sem,z0,z1,z2,z3]) rfl ⟨by rw [Vx9 HF.out,HGen.out,HPl.out,HR.out];rfl,?_⟩
  exact belowD ((((hbe.setCell (p:=⟨w.heap.size,0,none⟩) (Nat.le_refl _) _).setCell (p:=⟨w.heap.size,1,none⟩) (Nat.le_refl _) _).setCell (p:=⟨w.heap.size,2,none⟩) (Nat.le_refl _) _).setCell (p:=⟨w.heap.size,3,none⟩) (Nat.le_refl _) _) 1
theorem Jj9 (A : Option Addr) (c : Nat) (l : List UInt8) (w : World) (h : Reads w w.heap.size 1 A l.length (bys l)) (hn : l.length ≤ 1048576) (hc : l.length ≤ c) (hg : Given w) : Calls Tryz.prog 112 #[.slice A l.length c] w (RetGet w (Gb9 l)):=by
 by_cases hl : l.length < 11
 ·exact Vw9 A c l w hl
 ·exact Yg9 A c l w h hn hc hg (by omega)
end Go.Proofs.YthpkdjflndiojaaGreatDoor
