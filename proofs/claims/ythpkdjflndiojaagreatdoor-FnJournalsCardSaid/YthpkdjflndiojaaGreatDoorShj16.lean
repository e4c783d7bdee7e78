/- What the theorem needs, out of many texts. -/
import Derived.Test.YthpkdjflndiojaaGreatDoorShj15
set_option maxHeartbeats 20000000
namespace Go.Proofs.YthpkdjflndiojaaGreatDoor
open Go.RowKit Go.Maps
set_option maxRecDepth 2000000
set_option linter.unusedVariables false
set_option maxRecDepth 100000 in
theorem Dh9 (cs cs2 : List Value) (d : Disk) (n : Int) (b : List UInt8) (w : World) (h : diskR.at_ w w.heap.size cs d) (h2 : byR.at_ w w.heap.size cs2 b) (hf : Ag9 d) (hfb : b.length ≤ 1048576) (hwn : (Lit.int .i64 n).wf = true) :
 Calls Tryz.prog 25 #[.agg cs.toArray,.int .i64 n,cs2.headD undef] w (RetDisk w (U9 d n b)):=by
 obtain ⟨Ab,cb,rfl⟩:=Jy9 h2;obtain ⟨Ad,cd,Bd,ed,rfl⟩:=G7 h;have Td:=h;clear h;have HBw:=Below.refl w.heap.size w;have Tb:=h2;clear h2;obtain ⟨y,hy⟩ : ∃ y,Bz9 d = y:=⟨_,rfl⟩;have HOK:=Lib.hid hy;clear hy;have f1:=hf.1;have f3:=hf.2.2.1;go_enter Tryz.func25,Tryz.ntmps25
 go_wp2_with fail;have ho:=Rep.only_alloc w (.cells #[.slice Ad d.secs.length cd,.slice Bd d.cache.length ed,.int .i64 d.fuse,.bool d.down] 27);have hv:=heap_alloc_new w (.cells #[.slice Ad d.secs.length cd,.slice Bd d.cache.length ed,.int .i64 d.fuse,.bool d.down] 27);have hs : (w.alloc (.cells #[.slice Ad d.secs.length cd,.slice Bd d.cache.length ed,.int .i64 d.fuse,.bool d.down] 27)).heap.size = w.heap.size + 1:=by simp
 generalize hgW : w.alloc (.cells #[.slice Ad d.secs.length cd,.slice Bd d.cache.length ed,.int .i64 d.fuse,.bool d.down] 27) = W1 at ho hv hs ⊢;clear hgW;have SW1 : w.heap.size ≤ W1.heap.size:=ho.size;have HBW1:=Rep.Only.below HBw ho (by omega) (fun a ha => by cases ha)
 replace Td:=Rep.at_only Td ho (by omega) (fun a ha => by cases ha)
 replace Tb:=Rep.at_only Tb ho (by omega) (fun a ha => by cases ha)
 clear HBw;have Vd:=Lib.hid hv;clear hv ho;have ZW1 : w.heap.size < W1.heap.size:=by omega
 have EW1:=Lib.hid hs;clear hs;have ho:=Rep.only_alloc W1 (.cells #[.slice none 0 0,.slice none 0 0,.int .i64 0,.bool false] 27);have hv:=G9 W1 (.cells #[.slice none 0 0,.slice none 0 0,.int .i64 0,.bool false] 27) (n:=w.heap.size + 1) (by have:=EW1.out;omega)
 have hs : (W1.alloc (.cells #[.slice none 0 0,.slice none 0 0,.int .i64 0,.bool false] 27)).heap.size = W1.heap.size + 1:=by simp
 generalize hgW : W1.alloc (.cells #[.slice none 0 0,.slice none 0 0,.int .i64 0,.bool false] 27) = W2 at ho hv hs ⊢;clear hgW;have SW2 : W1.heap.size ≤ W2.heap.size:=ho.size;have HBW2:=Rep.Only.below HBW1 ho (by omega) (fun a ha => by cases ha)
 replace Td:=Rep.at_only Td ho (by omega) (fun a ha => by cases ha)
 replace Tb:=Rep.at_only Tb ho (by omega) (fun a ha => by cases ha)
 replace Vd:=Rep.var_only Vd ho (by omega) (fun hb => by cases hb)
 clear HBW1;have Vr:=Lib.hid hv;clear hv ho;have ZW2 : W1.heap.size < W2.heap.size:=by omega
 have YW2 : w.heap.size + 1 < W2.heap.size:=by have:=EW1.out;omega
 have EW2:=Lib.hid hs;clear hs;refine (Kh9 [.slice Ad d.secs.length cd,.slice Bd d.cache.length ed,.int .i64 d.fuse,.bool d.down] d W2 (Rep.more diskR Td (by omega)) hf).mono ?_
 rintro e W3 ⟨cs,fp4,rfl,Oo,hb⟩;obtain ⟨A5,c6,B7,d8,rfl⟩:=Q9 Oo;have ho:=Rep.only_of_below hb;have L9:=Lib.hid (Rep.lt diskR Oo);clear hb;have SW3 : W2.heap.size ≤ W3.heap.size:=ho.size;have HBW3:=Rep.Only.below HBW2 ho (by omega) (fun a ha => by cases ha)
 replace Td:=Rep.at_only Td ho (by omega) (fun a ha => by cases ha)
 replace Tb:=Rep.at_only Tb ho (by omega) (fun a ha => by cases ha)
 replace Vd:=Rep.var_only Vd ho (by omega) (fun hb => by cases hb)
 replace Vr:=Rep.var_only Vr ho (by omega) (fun hb => by cases hb)
 clear HBW2;clear ho;have qd_0 : W3.cell? ⟨w.heap.size,0,none⟩ = some (.slice Ad d.secs.length cd):=E9 Vd.out 0;have qd_1 : W3.cell? ⟨w.heap.size,1,none⟩ = some (.slice Bd d.cache.length ed):=E9 Vd.out 1;have qd_2 : W3.cell? ⟨w.heap.size,2,none⟩ = some (.int .i64 d.fuse):=E9 Vd.out 2;have qd_3 : W3.cell? ⟨w.heap.size,3,none⟩ = some (.bool d.down):=E9 Vd.out 3;have ld : w.heap.size < W3.heap.size:=by omega
 go_wp2_with fail;clear qd_0 qd_1 qd_2 qd_3 ld;have ho:=Rep.only_alloc W3 (.cells #[.slice A5 d.secs.length c6,.slice B7 d.cache.length d8,.int .i64 d.fuse,.bool d.down] 27);have hv:=heap_alloc_new W3 (.cells #[.slice A5 d.secs.length c6,.slice B7 d.cache.length d8,.int .i64 d.fuse,.bool d.down] 27);have hs : (W3.alloc (.cells #[.slice A5 d.secs.length c6,.slice B7 d.cache.length d8,.int .i64 d.fuse,.bool d.down] 27)).heap.size = W3.heap.size + 1:=by simp
 generalize hgW : W3.alloc (.cells #[.slice A5 d.secs.length c6,.slice B7 d.cache.length d8,.int .i64 d.fuse,.bool d.down] 27) = W10 at ho hv hs ⊢;clear hgW;have SW10 : W3.heap.size ≤ W10.heap.size:=ho.size;have HBW10:=Rep.Only.below HBW3 ho (by omega) (fun a ha => by cases ha)
 replace Td:=Rep.at_only Td ho (by omega) (fun a ha => by cases ha)
 replace Tb:=Rep.at_only Tb ho (by omega) (fun a ha => by cases ha)
 replace Oo:=Rep.own_only Oo ho (fun a ha hb => by cases hb)
 replace Vd:=Rep.var_only Vd ho (by omega) (fun hb => by cases hb)
 replace Vr:=Rep.var_only Vr ho (by omega) (fun hb => by cases hb)
 clear HBW3;have Vo:=Lib.hid hv;clear hv ho;have ZW10 : W3.heap.size < W10.heap.size:=by omega
 have EW10:=Lib.hid hs;clear hs;refine (Gm9 [.slice Ad d.secs.length cd,.slice Bd d.cache.length ed,.int .i64 d.fuse,.bool d.down] d W10 (Rep.more diskR Td (by omega)) hf).mono ?_
 rintro e W11 ⟨rfl,hb⟩;rw [HOK.out];have ho:=Rep.only_of_below hb;clear hb;have SW11 : W10.heap.size ≤ W11.heap.size:=ho.size;have HBW11:=Rep.Only.below HBW10 ho (by omega) (fun a ha => by cases ha)
 replace Td:=Rep.at_only Td ho (by omega) (fun a ha => by cases ha)
 replace Tb:=Rep.at_only Tb ho (by omega) (fun a ha => by cases ha)
 replace Oo:=Rep.own_only Oo ho (fun a ha hb => by cases hb)
 replace Vd:=Rep.var_only Vd ho (by omega) (fun hb => by cases hb)
 replace Vr:=Rep.var_only Vr ho (by omega) (fun hb => by cases hb)
 replace Vo:=Rep.var_only Vo ho (by omega) (fun hb => by cases hb)
 clear HBW10;clear ho;cases y with
 | false =>
   have HR:=Lib.hid (Ai9 (n:=n) (b:=b) (fun hh => Er9 HOK.out hh.1))
   have qo_0 : W11.cell? ⟨W3.heap.size,0,none⟩ = some (.slice A5 d.secs.length c6):=E9 Vo.out 0;have qo_1 : W11.cell? ⟨W3.heap.size,1,none⟩ = some (.slice B7 d.cache.length d8):=E9 Vo.out 1;have qo_2 : W11.cell? ⟨W3.heap.size,2,none⟩ = some (.int .i64 d.fuse):=E9 Vo.out 2;have qo_3 : W11.cell? ⟨W3.heap.size,3,none⟩ = some (.bool d.down):=E9 Vo.out 3;have lo : W3.heap.size < W11.heap.size:=by omega
   have qd_0 : W11.cell? ⟨w.heap.size,0,none⟩ = some (.slice Ad d.secs.length cd):=E9 Vd.out 0;have qd_1 : W11.cell? ⟨w.heap.size,1,none⟩ = some (.slice Bd d.cache.length ed):=E9 Vd.out 1;have qd_2 : W11.cell? ⟨w.heap.size,2,none⟩ = some (.int .i64 d.fuse):=E9 Vd.out 2;have qd_3 : W11.cell? ⟨w.heap.size,3,none⟩ = some (.bool d.down):=E9 Vd.out 3;have ld : w.heap.size < W11.heap.size:=by omega
   have qr_0 : W11.cell? ⟨w.heap.size + 1,0,none⟩ = some (.slice none 0 0):=E9 Vr.out 0;have qr_1 : W11.cell? ⟨w.heap.size + 1,1,none⟩ = some (.slice none 0 0):=E9 Vr.out 1;have qr_2 : W11.cell? ⟨w.heap.size + 1,2,none⟩ = some (.int .i64 0):=E9 Vr.out 2;have qr_3 : W11.cell? ⟨w.heap.size + 1,3,none⟩ = some (.bool false):=E9 Vr.out 3;have lr : w.heap.size + 1 < W11.heap.size:=by omega
   have fr_0:=C9 Vr.out 0;have fr_1:=C9 Vr.out 1;have fr_2:=C9 Vr.out 2;have fr_3:=C9 Vr.out 3;go_wp2_with fail;refine bodyPost_ret (v:=.agg #[.slice A5 d.secs.length c6,.slice B7 d.cache.length d8,.int .i64 d.fuse,.bool d.down]) (by simp [results,Tryz.results25,go_sem,qr_0,qr_1,qr_2,qr_3]) rfl ⟨_,fp4,rfl,?_,?_⟩
   ·rw [HR.out];refine diskR.low (base:=W2.heap.size) ?_ (by omega)
    repeat (refine Rep.setLow ?_ (by first | (simp;done) | (simp;omega)) _)
    exact Oo
   ·repeat (refine Below.setCell ?_ (by first | (simp;done) | (simp;omega)) _)
    exact HBW11
 | true =>
   have hg:=Cv9 HOK.out;rcases hdn : d.down with _ | _
   rotate_left
   ·have HR:=Lib.hid (Ai9 (d:=d) (n:=n) (b:=b) (fun hh => by have:=hh.2.1;rw [hdn] at this;cases this))
    have qo_0 : W11.cell? ⟨W3.heap.size,0,none⟩ = some (.slice A5 d.secs.length c6):=E9 Vo.out 0;have qo_1 : W11.cell? ⟨W3.heap.size,1,none⟩ = some (.slice B7 d.cache.length d8):=E9 Vo.out 1;have qo_2 : W11.cell? ⟨W3.heap.size,2,none⟩ = some (.int .i64 d.fuse):=E9 Vo.out 2;have qo_3 : W11.cell? ⟨W3.heap.size,3,none⟩ = some (.bool d.down):=E9 Vo.out 3;have lo : W3.heap.size < W11.heap.size:=by omega
    have qd_0 : W11.cell? ⟨w.heap.size,0,none⟩ = some (.slice Ad d.secs.length cd):=E9 Vd.out 0;have qd_1 : W11.cell? ⟨w.heap.size,1,none⟩ = some (.slice Bd d.cache.length ed):=E9 Vd.out 1;have qd_2 : W11.cell? ⟨w.heap.size,2,none⟩ = some (.int .i64 d.fuse):=E9 Vd.out 2;have qd_3 : W11.cell? ⟨w.heap.size,3,none⟩ = some (.bool d.down):=E9 Vd.out 3;have ld : w.heap.size < W11.heap.size:=by omega
    have qr_0 : W11.cell? ⟨w.heap.size + 1,0,none⟩ = some (.slice none 0 0):=E9 Vr.out 0;have qr_1 : W11.cell? ⟨w.heap.size + 1,1,none⟩ = some (.slice none 0 0):=E9 Vr.out 1;have qr_2 : W11.cell? ⟨w.heap.size + 1,2,none⟩ = some (.int .i64 0):=E9 Vr.out 2;have qr_3 : W11.cell? ⟨w.heap.size + 1,3,none⟩ = some (.bool false):=E9 Vr.out 3;have lr : w.heap.size + 1 < W11.heap.size:=by omega
    have fr_0:=C9 Vr.out 0;have fr_1:=C9 Vr.out 1;have fr_2:=C9 Vr.out 2;have fr_3:=C9 Vr.out 3;go_wp2_with fail;refine bodyPost_ret (v:=.agg #[.slice A5 d.secs.length c6,.slice B7 d.cache.length d8,.int .i64 d.fuse,.bool d.down]) (by simp [results,Tryz.results25,go_sem,qr_0,qr_1,qr_2,qr_3,hdn]) rfl ⟨_,fp4,rfl,?_,?_⟩
    ·rw [HR.out];refine diskR.low (base:=W2.heap.size) ?_ (by omega)
     repeat (refine Rep.setLow ?_ (by first | (simp;done) | (simp;omega)) _)
     exact Oo
    ·repeat (refine Below.setCell ?_ (by first | (simp;done) | (simp;omega)) _)
     exact HBW11
   by_cases hin : 0 ≤ n∧n ≤ (d.secs.length : Int) - 1
   rotate_left
   ·have HR:=Lib.hid (Ai9 (d:=d) (n:=n) (b:=b) (fun hh => hin ⟨hh.2.2.1.1,by have:=hh.2.2.1.2;omega⟩))
    have Hin:=Lib.hid hin;clear hin;have qd_0 : W11.cell? ⟨w.heap.size,0,none⟩ = some (.slice Ad d.secs.length cd):=E9 Vd.out 0;have qd_1 : W11.cell? ⟨w.heap.size,1,none⟩ = some (.slice Bd d.cache.length ed):=E9 Vd.out 1;have qd_2 : W11.cell? ⟨w.heap.size,2,none⟩ = some (.int .i64 d.fuse):=E9 Vd.out 2;have qd_3 : W11.cell? ⟨w.heap.size,3,none⟩ = some (.bool d.down):=E9 Vd.out 3;have ld : w.heap.size < W11.heap.size:=by omega
    go_wp2_with fail;clear qd_0 qd_1 qd_2 qd_3 ld;refine (Hs9 _ Hin.out).mono ?_;rintro e w9 ⟨rfl,rfl⟩;have qo_0 : W11.cell? ⟨W3.heap.size,0,none⟩ = some (.slice A5 d.secs.length c6):=E9 Vo.out 0;have qo_1 : W11.cell? ⟨W3.heap.size,1,none⟩ = some (.slice B7 d.cache.length d8):=E9 Vo.out 1;have qo_2 : W11.cell? ⟨W3.heap.size,2,none⟩ = some (.int .i64 d.fuse):=E9 Vo.out 2;have qo_3 : W11.cell? ⟨W3.heap.size,3,none⟩ = some (.bool d.down):=E9 Vo.out 3;have lo : W3.heap.size < W11.heap.size:=by omega
    have qd_0 : W11.cell? ⟨w.heap.size,0,none⟩ = some (.slice Ad d.secs.length cd):=E9 Vd.out 0;have qd_1 : W11.cell? ⟨w.heap.size,1,none⟩ = some (.slice Bd d.cache.length ed):=E9 Vd.out 1;have qd_2 : W11.cell? ⟨w.heap.size,2,none⟩ = some (.int .i64 d.fuse):=E9 Vd.out 2;have qd_3 : W11.cell? ⟨w.heap.size,3,none⟩ = some (.bool d.down):=E9 Vd.out 3;have ld : w.heap.size < W11.heap.size:=by omega
    have qr_0 : W11.cell? ⟨w.heap.size + 1,0,none⟩ = some (.slice none 0 0):=E9 Vr.out 0;have qr_1 : W11.cell? ⟨w.heap.size + 1,1,none⟩ = some (.slice none 0 0):=E9 Vr.out 1;have qr_2 : W11.cell? ⟨w.heap.size + 1,2,none⟩ = some (.int .i64 0):=E9 Vr.out 2;have qr_3 : W11.cell? ⟨w.heap.size + 1,3,none⟩ = some (.bool false):=E9 Vr.out 3;have lr : w.heap.size + 1 < W11.heap.size:=by omega
    have fr_0:=C9 Vr.out 0;have fr_1:=C9 Vr.out 1;have fr_2:=C9 Vr.out 2;have fr_3:=C9 Vr.out 3;go_wp2_with fail;refine bodyPost_ret (v:=.agg #[.slice A5 d.secs.length c6,.slice B7 d.cache.length d8,.int .i64 d.fuse,.bool d.down]) (by simp [results,Tryz.results25,go_sem,qr_0,qr_1,qr_2,qr_3,hdn]) rfl ⟨_,fp4,rfl,?_,?_⟩
    ·rw [HR.out];refine diskR.low (base:=W2.heap.size) ?_ (by omega)
     repeat (refine Rep.setLow ?_ (by first | (simp;done) | (simp;omega)) _)
     exact Oo
    ·repeat (refine Below.setCell ?_ (by first | (simp;done) | (simp;omega)) _)
     exact HBW11
   have Hin:=Lib.hid hin;clear hin;have qd_0 : W11.cell? ⟨w.heap.size,0,none⟩ = some (.slice Ad d.secs.length cd):=E9 Vd.out 0;have qd_1 : W11.cell? ⟨w.heap.size,1,none⟩ = some (.slice Bd d.cache.length ed):=E9 Vd.out 1;have qd_2 : W11.cell? ⟨w.heap.size,2,none⟩ = some (.int .i64 d.fuse):=E9 Vd.out 2;have qd_3 : W11.cell? ⟨w.heap.size,3,none⟩ = some (.bool d.down):=E9 Vd.out 3;have ld : w.heap.size < W11.heap.size:=by omega
   go_wp2_with fail;clear qd_0 qd_1 qd_2 qd_3 ld;refine (Dl9 _ Hin.out.1 Hin.out.2).mono ?_;rintro e w9 ⟨rfl,rfl⟩;by_cases h160 : b.length ≤ 160
   rotate_left
   ·have HR:=Lib.hid (Ai9 (d:=d) (n:=n) (b:=b) (fun hh => h160 hh.2.2.2.1))
    have qo_0 : W11.cell? ⟨W3.heap.size,0,none⟩ = some (.slice A5 d.secs.length c6):=E9 Vo.out 0;have qo_1 : W11.cell? ⟨W3.heap.size,1,none⟩ = some (.slice B7 d.cache.length d8):=E9 Vo.out 1;have qo_2 : W11.cell? ⟨W3.heap.size,2,none⟩ = some (.int .i64 d.fuse):=E9 Vo.out 2;have qo_3 : W11.cell? ⟨W3.heap.size,3,none⟩ = some (.bool d.down):=E9 Vo.out 3;have lo : W3.heap.size < W11.heap.size:=by omega
    have qd_0 : W11.cell? ⟨w.heap.size,0,none⟩ = some (.slice Ad d.secs.length cd):=E9 Vd.out 0;have qd_1 : W11.cell? ⟨w.heap.size,1,none⟩ = some (.slice Bd d.cache.length ed):=E9 Vd.out 1;have qd_2 : W11.cell? ⟨w.heap.size,2,none⟩ = some (.int .i64 d.fuse):=E9 Vd.out 2;have qd_3 : W11.cell? ⟨w.heap.size,3,none⟩ = some (.bool d.down):=E9 Vd.out 3;have ld : w.heap.size < W11.heap.size:=by omega
    have qr_0 : W11.cell? ⟨w.heap.size + 1,0,none⟩ = some (.slice none 0 0):=E9 Vr.out 0;have qr_1 : W11.cell? ⟨w.heap.size + 1,1,none⟩ = some (.slice none 0 0):=E9 Vr.out 1;have qr_2 : W11.cell? ⟨w.heap.size + 1,2,none⟩ = some (.int .i64 0):=E9 Vr.out 2;have qr_3 : W11.cell? ⟨w.heap.size + 1,3,none⟩ = some (.bool false):=E9 Vr.out 3;have lr : w.heap.size + 1 < W11.heap.size:=by omega
    have fr_0:=C9 Vr.out 0;have fr_1:=C9 Vr.out 1;have fr_2:=C9 Vr.out 2;have fr_3:=C9 Vr.out 3;go_wp2_with fail;refine bodyPost_ret (v:=.agg #[.slice A5 d.secs.length c6,.slice B7 d.cache.length d8,.int .i64 d.fuse,.bool d.down]) (by simp [results,Tryz.results25,go_sem,qr_0,qr_1,qr_2,qr_3,hdn]) rfl ⟨_,fp4,rfl,?_,?_⟩
    ·rw [HR.out];refine diskR.low (base:=W2.heap.size) ?_ (by omega)
     repeat (refine Rep.setLow ?_ (by first | (simp;done) | (simp;omega)) _)
     exact Oo
    ·repeat (refine Below.setCell ?_ (by first | (simp;done) | (simp;omega)) _)
     exact HBW11
   by_cases h30 : d.cache.length = 30
   ·have HR:=Lib.hid (Ai9 (d:=d) (n:=n) (b:=b) (fun hh => hh.2.2.2.2 h30))
    have g30 : ((d.cache.length : Int) == 30) = true:=by simp;omega
    clear h30;have qo_0 : W11.cell? ⟨W3.heap.size,0,none⟩ = some (.slice A5 d.secs.length c6):=E9 Vo.out 0;have qo_1 : W11.cell? ⟨W3.heap.size,1,none⟩ = some (.slice B7 d.cache.length d8):=E9 Vo.out 1;have qo_2 : W11.cell? ⟨W3.heap.size,2,none⟩ = some (.int .i64 d.fuse):=E9 Vo.out 2;have qo_3 : W11.cell? ⟨W3.heap.size,3,none⟩ = some (.bool d.down):=E9 Vo.out 3;have lo : W3.heap.size < W11.heap.size:=by omega
    have qd_0 : W11.cell? ⟨w.heap.size,0,none⟩ = some (.slice Ad d.secs.length cd):=E9 Vd.out 0;have qd_1 : W11.cell? ⟨w.heap.size,1,none⟩ = some (.slice Bd d.cache.length ed):=E9 Vd.out 1;have qd_2 : W11.cell? ⟨w.heap.size,2,none⟩ = some (.int .i64 d.fuse):=E9 Vd.out 2;have qd_3 : W11.cell? ⟨w.heap.size,3,none⟩ = some (.bool d.down):=E9 Vd.out 3;have ld : w.heap.size < W11.heap.size:=by omega
    have qr_0 : W11.cell? ⟨w.heap.size + 1,0,none⟩ = some (.slice none 0 0):=E9 Vr.out 0;have qr_1 : W11.cell? ⟨w.heap.size + 1,1,none⟩ = some (.slice none 0 0):=E9 Vr.out 1;have qr_2 : W11.cell? ⟨w.heap.size + 1,2,none⟩ = some (.int .i64 0):=E9 Vr.out 2;have qr_3 : W11.cell? ⟨w.heap.size + 1,3,none⟩ = some (.bool false):=E9 Vr.out 3;have lr : w.heap.size + 1 < W11.heap.size:=by omega
    have fr_0:=C9 Vr.out 0;have fr_1:=C9 Vr.out 1;have fr_2:=C9 Vr.out 2;have fr_3:=C9 Vr.out 3;go_wp2_with fail;refine bodyPost_ret (v:=.agg #[.slice A5 d.secs.length c6,.slice B7 d.cache.length d8,.int .i64 d.fuse,.bool d.down]) (by simp [results,Tryz.results25,go_sem,qr_0,qr_1,qr_2,qr_3,hdn]) rfl ⟨_,fp4,rfl,?_,?_⟩
    ·rw [HR.out];refine diskR.low (base:=W2.heap.size) ?_ (by omega)
     repeat (refine Rep.setLow ?_ (by first | (simp;done) | (simp;omega)) _)
     exact Oo
    ·repeat (refine Below.setCell ?_ (by first | (simp;done) | (simp;omega)) _)
     exact HBW11
   have g30 : ((d.cache.length : Int) == 30) = false:=by simp;omega
   have HG : Hid (Bj9 d n b):=Lib.hid ⟨hg,hdn,⟨Hin.out.1,by have:=Hin.out.2;omega⟩,h160,h30⟩
   have hfu1 : -1 ≤ d.fuse:=hg.2.2.2.1;have hfu2 : d.fuse ≤ 1000:=hg.2.2.2.2;have h29 : d.cache.length ≤ 30:=hg.1.2.2;have HW:=Lib.hid (Sl9 hg);clear h30 hg;obtain ⟨u1,u2,ff,fc,hcs,ho1,ho2,hfp,hnd⟩:=Hi9 Oo;have e1 : u1 = .slice A5 d.secs.length c6:=by injection hcs with h1 _;exact h1.symm
   have e2 : u2 = .slice B7 d.cache.length d8:=by injection hcs with _ h2;injection h2 with h2 _;exact h2.symm
   subst e1 e2;clear hcs;have HN:=Lib.hid hnd;have HFP:=Lib.hid hfp;clear hnd hfp Oo;have LS:=Lib.hid (fun a ha => L9.out a (by rw [HFP.out];exact List.mem_append_left _ ha))
   have LC:=Lib.hid (fun a ha => L9.out a (by rw [HFP.out];exact List.mem_append_right _ ha))
   by_cases hz : d.fuse = 0
   ·have HR:=Lib.hid (Dg9 HG.out hz)
    have Vz : Hid (W11.heap[W3.heap.size]? = some (.cells #[.slice A5 d.secs.length c6,.slice B7 d.cache.length d8,.int .i64 0,.bool d.down] 27 (0,0))):=Lib.hid (by have:=Vo.out;rw [hz] at this;exact this)
    clear hz;have qd_0 : W11.cell? ⟨w.heap.size,0,none⟩ = some (.slice Ad d.secs.length cd):=E9 Vd.out 0;have qd_1 : W11.cell? ⟨w.heap.size,1,none⟩ = some (.slice Bd d.cache.length ed):=E9 Vd.out 1;have qd_2 : W11.cell? ⟨w.heap.size,2,none⟩ = some (.int .i64 d.fuse):=E9 Vd.out 2;have qd_3 : W11.cell? ⟨w.heap.size,3,none⟩ = some (.bool d.down):=E9 Vd.out 3;have ld : w.heap.size < W11.heap.size:=by omega
    go_wp2_with fail;clear qd_0 qd_1 qd_2 qd_3 ld;refine (Nj9 W3.heap.size (.slice A5 d.secs.length c6) (.slice B7 d.cache.length d8) d.down W11 Vz.out).mono ?_;rintro e W12 ⟨rfl,vv,ho⟩;have LF:=Lib.hid (fun a (ha : a ∈ [W3.heap.size]) => (by simp at ha;omega : W3.heap.size ≤ a∧a < W3.heap.size + 1))
    replace ho1:=ho1.kept (fun a ha => ho.block a (by have:=(LS.out a ha).2;omega) (by have:=(LS.out a ha).2;simp;omega))
    replace ho2:=ho2.kept (fun a ha => ho.block a (by have:=(LC.out a ha).2;omega) (by have:=(LC.out a ha).2;simp;omega))
    have SW12 : W11.heap.size ≤ W12.heap.size:=ho.size;have HBW12:=Rep.Only.below HBW11 ho (by omega) (fun a ha => by have:=(LF.out a ha).1;omega)
    replace Td:=Rep.at_only Td ho (by omega) (fun a ha => by have:=(LF.out a ha).1;omega)
    replace Tb:=Rep.at_only Tb ho (by omega) (fun a ha => by have:=(LF.out a ha).1;omega)
    replace Vd:=Rep.var_only Vd ho (by omega) (fun hb => by have:=LF.out _ hb;omega)
    replace Vr:=Rep.var_only Vr ho (by omega) (fun hb => by have:=LF.out _ hb;omega)
    clear HBW11;clear ho LF;clear Vo;have Vo:=vv;clear vv;have qo_0 : W12.cell? ⟨W3.heap.size,0,none⟩ = some (.slice A5 d.secs.length c6):=E9 Vo.out 0;have qo_1 : W12.cell? ⟨W3.heap.size,1,none⟩ = some (.slice B7 d.cache.length d8):=E9 Vo.out 1;have qo_2 : W12.cell? ⟨W3.heap.size,2,none⟩ = some (.int .i64 (-1)):=E9 Vo.out 2;have qo_3 : W12.cell? ⟨W3.heap.size,3,none⟩ = some (.bool true):=E9 Vo.out 3;have lo : W3.heap.size < W12.heap.size:=by omega
    have qr_0 : W12.cell? ⟨w.heap.size + 1,0,none⟩ = some (.slice none 0 0):=E9 Vr.out 0;have qr_1 : W12.cell? ⟨w.heap.size + 1,1,none⟩ = some (.slice none 0 0):=E9 Vr.out 1;have qr_2 : W12.cell? ⟨w.heap.size + 1,2,none⟩ = some (.int .i64 0):=E9 Vr.out 2;have qr_3 : W12.cell? ⟨w.heap.size + 1,3,none⟩ = some (.bool false):=E9 Vr.out 3;have lr : w.heap.size + 1 < W12.heap.size:=by omega
    have fr_0:=C9 Vr.out 0;have fr_1:=C9 Vr.out 1;have fr_2:=C9 Vr.out 2;have fr_3:=C9 Vr.out 3;go_wp2_with fail;refine bodyPost_ret (v:=.agg #[.slice A5 d.secs.length c6,.slice B7 d.cache.length d8,.int .i64 (-1),.bool true]) (by simp [results,Tryz.results25,go_sem,qr_0,qr_1,qr_2,qr_3]) rfl ⟨_,ff ++ fc,rfl,?_,?_⟩
    ·rw [HR.out];refine diskR.low (base:=W2.heap.size) ?_ (by omega)
     repeat (refine Rep.setLow ?_ (by first | (simp;done) | (simp;omega)) _)
     exact Ck9 (d:=⟨d.secs,d.cache,-1,true⟩) ho1 ho2 (by rw [← HFP.out];exact HN.out)
    ·repeat (refine Below.setCell ?_ (by first | (simp;done) | (simp;omega)) _)
     exact HBW12
   have HR:=Lib.hid (Aj9 HG.out hz);have HZ:=Lib.hid hz;clear hz;have qd_0 : W11.cell? ⟨w.heap.size,0,none⟩ = some (.slice Ad d.secs.length cd):=E9 Vd.out 0;have qd_1 : W11.cell? ⟨w.heap.size,1,none⟩ = some (.slice Bd d.cache.length ed):=E9 Vd.out 1;have qd_2 : W11.cell? ⟨w.heap.size,2,none⟩ = some (.int .i64 d.fuse):=E9 Vd.out 2;have qd_3 : W11.cell? ⟨w.heap.size,3,none⟩ = some (.bool d.down):=E9 Vd.out 3;have ld : w.heap.size < W11.heap.size:=by omega
   go_wp2_with fail;clear qd_0 qd_1 qd_2 qd_3 ld;refine (Rn9 W3.heap.size (.slice A5 d.secs.length c6) (.slice B7 d.cache.length d8) d.fuse d.down W11 Vo.out HZ.out hfu1 hfu2).mono ?_;rintro e W13 ⟨rfl,vv,ho⟩;have LF:=Lib.hid (fun a (ha : a ∈ [W3.heap.size]) => (by simp at ha;omega : W3.heap.size ≤ a∧a < W3.heap.size + 1))
   replace ho1:=ho1.kept (fun a ha => ho.block a (by have:=(LS.out a ha).2;omega) (by have:=(LS.out a ha).2;simp;omega))
   replace ho2:=ho2.kept (fun a ha => ho.block a (by have:=(LC.out a ha).2;omega) (by have:=(LC.out a ha).2;simp;omega))
   have SW13 : W11.heap.size ≤ W13.heap.size:=ho.size;have HBW13:=Rep.Only.below HBW11 ho (by omega) (fun a ha => by have:=(LF.out a ha).1;omega)
   replace Td:=Rep.at_only Td ho (by omega) (fun a ha => by have:=(LF.out a ha).1;omega)
   replace Tb:=Rep.at_only Tb ho (by omega) (fun a ha => by have:=(LF.out a ha).1;omega)
   replace Vd:=Rep.var_only Vd ho (by omega) (fun hb => by have:=LF.out _ hb;omega)
   replace Vr:=Rep.var_only Vr ho (by omega) (fun hb => by have:=LF.out _ hb;omega)
   clear HBW11;clear ho LF;clear Vo;have Vo:=vv;clear vv;obtain ⟨j0,hj0,hj1,hj2,hj3⟩:=info_parts Tryz.info8;obtain ⟨m0,hm0,hm1,hm2,hm3⟩:=info_parts Tryz.info42;go_wp2_with fail;obtain ⟨_,_,hb1,_,hrb⟩:=Tb;injection hb1 with hb1;injection hb1 with hb1 _ hb2;subst hb1 hb2;have e1 : W13.cell? ⟨W3.heap.size,1,none⟩ = some (.slice B7 d.cache.length d8):=E9 Vo.out 1;refine M9 10 [0,1,2,4] [3,5,6,7,8,9,10] (fun w' => w'.cell? ⟨W3.heap.size,1,none⟩ = some (.slice B7 d.cache.length d8)) (by kernel_rfl) (by kernel_rfl) e1 ?_
   iterate 4 (refine LexR.cons rfl ?_ (fun w' hw => ?_) ?_;rotate_left;focus (go_simp;(try exact rfl)))
   refine LexR.nil (LexW.cons rfl ?_);try go_frame
   go_wp2_with fail;have hB0 : Below w.heap.size w (W13.alloc (.cells #[] 5)).drew:=belowD (HBW13.alloc (by omega) _) 1
   have s3 : W3.heap.size < W13.heap.size:=by omega
   have hSa:=Lib.hid (show (W13.alloc (.cells #[] 5)).cell? ⟨W3.heap.size,1,none⟩ = some (.slice B7 d.cache.length d8) from (World.cell?_alloc_lt _ _ _ (by simpa using s3)).trans e1)
   refine ⟨(by first | exact hSa.out | exact fun _ => hSa.out),LexW.cons rfl ?_⟩
   try go_frame
   refine Rep.wpList_bytes _ W13 rfl (.tmp 42) (.tmp 43) _ rfl 5 j0 Tryz.underlying22 hj0 hj1 hj2 hj3 _ rfl W13.heap.size (Rep.lit_empty W13 _ _ rfl) (by simp) w.heap.size Ab cb b rfl ((hrb.alloc (by omega) _).drew) hfb ?_
   intro A3 c3 w3 hown3 hg3 hv3;have hB3 : Below w.heap.size w w3:=hB0.grown hg3 (by simp;omega) (fun k hk => by have:=hv3 k hk;omega)
   have hk3 : ∀ a,a < W13.heap.size→w3.heap[a]? = W13.heap[a]?:=fun a ha => (hg3.block a (by simp;omega) (fun e => by have:=hv3 a e.symm;omega)).trans (Below.heap_alloc W13 _ a ha)
   have hz3 : W13.heap.size ≤ w3.heap.size:=by have:=hg3.size;simp at this;omega
   have hS3:=Lib.hid (show w3.cell? ⟨W3.heap.size,1,none⟩ = some (.slice B7 d.cache.length d8) from (World.cell?_of_block (hk3 (W3.heap.size) s3)).trans e1)
   refine ⟨(by first | exact hS3.out | exact fun _ => hS3.out),LexW.cons rfl ?_⟩
   try go_frame
   go_wp2_with fail;refine ⟨(by first | exact hS3.out | exact fun _ => hS3.out),LexW.cons rfl ?_⟩
   try go_frame
   go_wp2_with fail;have hk4 : ∀ a,a < W13.heap.size→(w3.alloc (.cells #[.int .i64 n,.slice A3 b.length c3] 84)).heap[a]? = W13.heap[a]?:=fun a ha => (Below.heap_alloc _ _ _ (by omega)).trans (hk3 a ha)
   have hown4:=ho2.kept (w':=w3.alloc (.cells #[.int .i64 n,.slice A3 b.length c3] 84)) (fun a ha => hk4 a (by have:=(LC.out a ha).2;omega))
   have hel : wrR.own (w3.alloc (.cells #[.int .i64 n,.slice A3 b.length c3] 84)) W2.heap.size [.int .i64 n,.slice A3 b.length c3] ⟨n,b⟩ ((Value.slice A3 b.length c3).ownBlock.toList):=Mg9 (x:=⟨n,b⟩) ((ownsRow_mono hown3 (by omega)).alloc _)
   have hnew:=T7 w3 #[.int .i64 n,.slice A3 b.length c3] 2 1 84 (g:=w3.heap.size) rfl rfl (by simp [maxLen])
   have hSb:=Lib.hid (show (w3.alloc (.cells #[.int .i64 n,.slice A3 b.length c3] 84)).cell? ⟨W3.heap.size,1,none⟩ = some (.slice B7 d.cache.length d8) from (World.cell?_of_block (hk4 (W3.heap.size) s3)).trans e1)
   refine ⟨(by first | exact hSb.out | exact fun _ => hSb.out),LexW.cons rfl ?_⟩
   try go_frame
   refine Rep.wpList_push _ rfl (.tmp 40) (.tmp 46) _ rfl wrR (W2.heap.size) 84 m0 _ 32 Tryz.underlying25 hm0 hm1 hm2 hm3 rfl (by decide) (.slice B7 d.cache.length d8) d.cache fc rfl hown4 _ 1 _ ⟨n,b⟩ _ rfl hnew (Ln9 rfl rfl) hel (fun a ha ha' => by have h1:=(hown3.lt a (by simpa using ha)).1;have h2:=(LC.out a ha').2;omega) (by simp only [maxLen];omega) (by omega) (by simp;omega) ?_
   intro A4 c4 w4 fp4 hown5 hg4 hf4 hv4;have hk5 : ∀ a,a < W13.heap.size→a ∉ fc→w4.heap[a]? = W13.heap[a]?:=fun a ha hn => (hg4.block a (by simp;omega) (fun e => hn (hv4 a e.symm).2)).trans (hk4 a ha)
   have hnc : ∀ a,W3.heap.size ≤ a→a ∉ fc:=fun a ha hn => by have:=(LC.out a hn).2;omega
   have hnl : ∀ a,a < W2.heap.size→a ∉ fc:=fun a ha hn => by have:=(LC.out a hn).1;omega
   have hz4 : w3.heap.size ≤ w4.heap.size:=by have:=hg4.size;simp at this;omega
   have hB4 : Below w.heap.size w w4:=(hB3.alloc hB3.size _).grown hg4 (by simp;have:=hB3.size;omega) (fun k hk => by have:=(hv4 k hk).1;omega)
   have vo4:=(hk5 (W3.heap.size) s3 (hnc _ (Nat.le_refl _))).trans Vo.out;have hS5:=Lib.hid (show w4.cell? ⟨W3.heap.size,1,none⟩ = some (.slice B7 d.cache.length d8) from E9 vo4 1)
   have ho1':=ho1.kept (w':=w4) (fun a ha => hk5 a (by have:=(LS.out a ha).2;omega) (fun hc => (List.nodup_append.1 (HFP.out ▸ HN.out)).2.2 a ha a hc rfl))
   have hdis : ∀ a, a ∈ ff → a ∈ fp4 → False := fun a ha hc => by
         rcases hf4 a hc with h | h | h
         ·exact (List.nodup_append.1 (HFP.out ▸ HN.out)).2.2 a ha a h rfl
         ·have h1:=(hown3.lt a (by simpa using h)).1;have h2:=(LS.out a ha).2;omega
         ·have h2:=(LS.out a ha).2;simp at h;omega
   have HD:=Lib.hid hdis;have vr4:=(hk5 (w.heap.size + 1) (by omega) (hnl _ (by omega))).trans Vr.out
   refine ⟨(by first | exact hS5.out | exact fun _ => hS5.out),LexW.cons rfl ?_⟩
   try go_frame
   go_wp2_with fail;refine ⟨(by first | exact hS5.out | exact fun _ => hS5.out),LexW.cons rfl ?_⟩
   have c2q:=hS5.out;have q2 : w4.frozen? ⟨W3.heap.size,1,none⟩ = false:=C9 vo4 1;try go_frame
   go_wp2_with fail;refine ⟨fun h => absurd rfl h,LexW.nil ?_⟩
   have Vo5:=Lib.hid (N9 vo4 1 (.slice A4 (d.cache.length + 1) c4));have Vr5:=Lib.hid ((heap_setCell_other w4 ⟨W3.heap.size,1,none⟩ (w.heap.size + 1) (.slice A4 (d.cache.length + 1) c4) (by simp;omega)).trans vr4)
   have ho1s:=ho1'.kept (w':=w4.setCell ⟨W3.heap.size,1,none⟩ (.slice A4 (d.cache.length + 1) c4)) (fun a ha => heap_setCell_other _ _ _ _ (by have:=(LS.out a ha).2;simp;omega))
   have hlt5:=Lib.hid (fun a ha => hown5.lt a ha)
   have ho2s:=hown5.kept (w':=w4.setCell ⟨W3.heap.size,1,none⟩ (.slice A4 (d.cache.length + 1) c4)) (fun a ha => heap_setCell_other _ _ _ _ (fun e => by simp at e;rcases hf4 a ha with h | h | h;(have:=(LC.out a h).2;omega);(have h1:=(hown3.lt a (by simpa using h)).1;omega);(simp at h;omega)))
   have hB5:=hB4.setCell (p:=⟨W3.heap.size,1,none⟩) (by simp;omega) (.slice A4 (d.cache.length + 1) c4)
   have hz5 : w3.heap.size ≤ (w4.setCell ⟨W3.heap.size,1,none⟩ (.slice A4 (d.cache.length + 1) c4)).heap.size:=by simpa using hz4
   generalize hgw5 : w4.setCell ⟨W3.heap.size,1,none⟩ (.slice A4 (d.cache.length + 1) c4) = w5 at Vo5 Vr5 ho1s ho2s hB5 hz5 ⊢;clear hgw5 hg3 hg4 hS5 hS3 c2q q2 hk3 hk4 hk5 hf4 hv4 hdis hnc hnl e1 vo4 vr4;have HBw5:=hB5;clear Vo Vr;have Vo : Hid (w5.heap[W3.heap.size]? = some (.cells #[.slice A5 d.secs.length c6,.slice A4 (d.cache.length + 1) c4,.int .i64 (X9 d.fuse),.bool d.down] 27 (0,0))):=Vo5;have Vr:=Vr5;have qo_0 : w5.cell? ⟨W3.heap.size,0,none⟩ = some (.slice A5 d.secs.length c6):=E9 Vo.out 0;have qo_1 : w5.cell? ⟨W3.heap.size,1,none⟩ = some (.slice A4 (d.cache.length + 1) c4):=E9 Vo.out 1;have qo_2 : w5.cell? ⟨W3.heap.size,2,none⟩ = some (.int .i64 (X9 d.fuse)):=E9 Vo.out 2;have qo_3 : w5.cell? ⟨W3.heap.size,3,none⟩ = some (.bool d.down):=E9 Vo.out 3;have lo : W3.heap.size < w5.heap.size:=by omega
   have hl5 : (d.cache ++ [(⟨n,b⟩ : Wr)]).length = d.cache.length + 1:=by simp
   have qr_0 : w5.cell? ⟨w.heap.size + 1,0,none⟩ = some (.slice none 0 0):=E9 Vr.out 0;have qr_1 : w5.cell? ⟨w.heap.size + 1,1,none⟩ = some (.slice none 0 0):=E9 Vr.out 1;have qr_2 : w5.cell? ⟨w.heap.size + 1,2,none⟩ = some (.int .i64 0):=E9 Vr.out 2;have qr_3 : w5.cell? ⟨w.heap.size + 1,3,none⟩ = some (.bool false):=E9 Vr.out 3;have lr : w.heap.size + 1 < w5.heap.size:=by omega
   have fr_0:=C9 Vr.out 0;have fr_1:=C9 Vr.out 1;have fr_2:=C9 Vr.out 2;have fr_3:=C9 Vr.out 3;go_wp2_with fail;refine bodyPost_ret (v:=.agg #[.slice A5 d.secs.length c6,.slice A4 (d.cache.length + 1) c4,.int .i64 (X9 d.fuse),.bool d.down]) (by simp [results,Tryz.results25,go_sem,qr_0,qr_1,qr_2,qr_3,hdn]) rfl ⟨_,ff ++ fp4,rfl,?_,?_⟩
   ·rw [HR.out];refine diskR.low (base:=W2.heap.size) ?_ (by omega)
    repeat (refine Rep.setLow ?_ (by first | (simp;done) | (simp;omega)) _)
    exact Ck9 (d:=⟨d.secs,d.cache ++ [⟨n,b⟩],X9 d.fuse,d.down⟩) ho1s ho2s (Rep.nodup_append_of (List.nodup_append.1 (HFP.out ▸ HN.out)).1 (Rep.nodup cacheR (w:=w5) (base:=W2.heap.size) (cs:=[.slice A4 (d.cache.length + 1) c4]) ⟨_,rfl,ho2s⟩) HD.out)
   ·repeat (refine Below.setCell ?_ (by first | (simp;done) | (simp;omega)) _)
    exact HBw5
set_option maxRecDepth 100000 in
theorem Si9 (cs cs2 : List Value) (d : Disk) (n : Int) (b : List UInt8) (w : World) (h : diskR.at_ w w.heap.size cs d) (h2 : byR.at_ w w.heap.size cs2 b) (hf : Ag9 d) (hfb : b.length ≤ 1048576) (hwn : (Lit.int .i64 n).wf = true) :
 Calls Tryz.prog 35 #[.agg cs.toArray,.int .i64 n,cs2.headD undef] w (RetDisk w (U9 d n b)):=by
 obtain ⟨Ab,cb,rfl⟩:=Jy9 h2;obtain ⟨Ad,cd,Bd,ed,rfl⟩:=G7 h;have Td:=h;clear h;have HBw:=Below.refl w.heap.size w;have Tb:=h2;clear h2;obtain ⟨y,hy⟩ : ∃ y,Bz9 d = y:=⟨_,rfl⟩;have HOK:=Lib.hid hy;clear hy;have f1:=hf.1;have f3:=hf.2.2.1;go_enter Tryz.func35,Tryz.ntmps35
 go_wp2_with fail;have ho:=Rep.only_alloc w (.cells #[.slice Ad d.secs.length cd,.slice Bd d.cache.length ed,.int .i64 d.fuse,.bool d.down] 27);have hv:=heap_alloc_new w (.cells #[.slice Ad d.secs.length cd,.slice Bd d.cache.length ed,.int .i64 d.fuse,.bool d.down] 27);have hs : (w.alloc (.cells #[.slice Ad d.secs.length cd,.slice Bd d.cache.length ed,.int .i64 d.fuse,.bool d.down] 27)).heap.size = w.heap.size + 1:=by simp
 generalize hgW : w.alloc (.cells #[.slice Ad d.secs.length cd,.slice Bd d.cache.length ed,.int .i64 d.fuse,.bool d.down] 27) = W1 at ho hv hs ⊢;clear hgW;have SW1 : w.heap.size ≤ W1.heap.size:=ho.size;have HBW1:=Rep.Only.below HBw ho (by omega) (fun a ha => by cases ha)
 replace Td:=Rep.at_only Td ho (by omega) (fun a ha => by cases ha)
 replace Tb:=Rep.at_only Tb ho (by omega) (fun a ha => by cases ha)
 clear HBw;have Vd:=Lib.hid hv;clear hv ho;have ZW1 : w.heap.size < W1.heap.size:=by omega
 have EW1:=Lib.hid hs;clear hs;have ho:=Rep.only_alloc W1 (.cells #[.slice none 0 0,.slice none 0 0,.int .i64 0,.bool false] 27);have hv:=G9 W1 (.cells #[.slice none 0 0,.slice none 0 0,.int .i64 0,.bool false] 27) (n:=w.heap.size + 1) (by have:=EW1.out;omega)
 have hs : (W1.alloc (.cells #[.slice none 0 0,.slice none 0 0,.int .i64 0,.bool false] 27)).heap.size = W1.heap.size + 1:=by simp
 generalize hgW : W1.alloc (.cells #[.slice none 0 0,.slice none 0 0,.int .i64 0,.bool false] 27) = W2 at ho hv hs ⊢;clear hgW;have SW2 : W1.heap.size ≤ W2.heap.size:=ho.size;have HBW2:=Rep.Only.below HBW1 ho (by omega) (fun a ha => by cases ha)
 replace Td:=Rep.at_only Td ho (by omega) (fun a ha => by cases ha)
 replace Tb:=Rep.at_only Tb ho (by omega) (fun a ha => by cases ha)
 replace Vd:=Rep.var_only Vd ho (by omega) (fun hb => by cases hb)
 clear HBW1;have Vr:=Lib.hid hv;clear hv ho;have ZW2 : W1.heap.size < W2.heap.size:=by omega
 have YW2 : w.heap.size + 1 < W2.heap.size:=by have:=EW1.out;omega
 have EW2:=Lib.hid hs;clear hs;refine (Ia9 [.slice Ad d.secs.length cd,.slice Bd d.cache.length ed,.int .i64 d.fuse,.bool d.down] d W2 (Rep.more diskR Td (by omega)) hf).mono ?_
 rintro e W3 ⟨cs,fp4,rfl,Oo,hb⟩;obtain ⟨A5,c6,B7,d8,rfl⟩:=Q9 Oo;have ho:=Rep.only_of_below hb;have L9:=Lib.hid (Rep.lt diskR Oo);clear hb;have SW3 : W2.heap.size ≤ W3.heap.size:=ho.size;have HBW3:=Rep.Only.below HBW2 ho (by omega) (fun a ha => by cases ha)
 replace Td:=Rep.at_only Td ho (by omega) (fun a ha => by cases ha)
 replace Tb:=Rep.at_only Tb ho (by omega) (fun a ha => by cases ha)
 replace Vd:=Rep.var_only Vd ho (by omega) (fun hb => by cases hb)
 replace Vr:=Rep.var_only Vr ho (by omega) (fun hb => by cases hb)
 clear HBW2;clear ho;have qd_0 : W3.cell? ⟨w.heap.size,0,none⟩ = some (.slice Ad d.secs.length cd):=E9 Vd.out 0;have qd_1 : W3.cell? ⟨w.heap.size,1,none⟩ = some (.slice Bd d.cache.length ed):=E9 Vd.out 1;have qd_2 : W3.cell? ⟨w.heap.size,2,none⟩ = some (.int .i64 d.fuse):=E9 Vd.out 2;have qd_3 : W3.cell? ⟨w.heap.size,3,none⟩ = some (.bool d.down):=E9 Vd.out 3;have ld : w.heap.size < W3.heap.size:=by omega
 go_wp2_with fail;clear qd_0 qd_1 qd_2 qd_3 ld;have ho:=Rep.only_alloc W3 (.cells #[.slice A5 d.secs.length c6,.slice B7 d.cache.length d8,.int .i64 d.fuse,.bool d.down] 27);have hv:=heap_alloc_new W3 (.cells #[.slice A5 d.secs.length c6,.slice B7 d.cache.length d8,.int .i64 d.fuse,.bool d.down] 27);have hs : (W3.alloc (.cells #[.slice A5 d.secs.length c6,.slice B7 d.cache.length d8,.int .i64 d.fuse,.bool d.down] 27)).heap.size = W3.heap.size + 1:=by simp
 generalize hgW : W3.alloc (.cells #[.slice A5 d.secs.length c6,.slice B7 d.cache.length d8,.int .i64 d.fuse,.bool d.down] 27) = W10 at ho hv hs ⊢;clear hgW;have SW10 : W3.heap.size ≤ W10.heap.size:=ho.size;have HBW10:=Rep.Only.below HBW3 ho (by omega) (fun a ha => by cases ha)
 replace Td:=Rep.at_only Td ho (by omega) (fun a ha => by cases ha)
 replace Tb:=Rep.at_only Tb ho (by omega) (fun a ha => by cases ha)
 replace Oo:=Rep.own_only Oo ho (fun a ha hb => by cases hb)
 replace Vd:=Rep.var_only Vd ho (by omega) (fun hb => by cases hb)
 replace Vr:=Rep.var_only Vr ho (by omega) (fun hb => by cases hb)
 clear HBW3;have Vo:=Lib.hid hv;clear hv ho;have ZW10 : W3.heap.size < W10.heap.size:=by omega
 have EW10:=Lib.hid hs;clear hs;refine (Hv9 [.slice Ad d.secs.length cd,.slice Bd d.cache.length ed,.int .i64 d.fuse,.bool d.down] d W10 (Rep.more diskR Td (by omega)) hf).mono ?_
 rintro e W11 ⟨rfl,hb⟩;rw [HOK.out];have ho:=Rep.only_of_below hb;clear hb;have SW11 : W10.heap.size ≤ W11.heap.size:=ho.size;have HBW11:=Rep.Only.below HBW10 ho (by omega) (fun a ha => by cases ha)
 replace Td:=Rep.at_only Td ho (by omega) (fun a ha => by cases ha)
 replace Tb:=Rep.at_only Tb ho (by omega) (fun a ha => by cases ha)
 replace Oo:=Rep.own_only Oo ho (fun a ha hb => by cases hb)
 replace Vd:=Rep.var_only Vd ho (by omega) (fun hb => by cases hb)
 replace Vr:=Rep.var_only Vr ho (by omega) (fun hb => by cases hb)
 replace Vo:=Rep.var_only Vo ho (by omega) (fun hb => by cases hb)
 clear HBW10;clear ho;cases y with
 | false =>
   have HR:=Lib.hid (Ai9 (n:=n) (b:=b) (fun hh => Er9 HOK.out hh.1))
   have qo_0 : W11.cell? ⟨W3.heap.size,0,none⟩ = some (.slice A5 d.secs.length c6):=E9 Vo.out 0;have qo_1 : W11.cell? ⟨W3.heap.size,1,none⟩ = some (.slice B7 d.cache.length d8):=E9 Vo.out 1;have qo_2 : W11.cell? ⟨W3.heap.size,2,none⟩ = some (.int .i64 d.fuse):=E9 Vo.out 2;have qo_3 : W11.cell? ⟨W3.heap.size,3,none⟩ = some (.bool d.down):=E9 Vo.out 3;have lo : W3.heap.size < W11.heap.size:=by omega
   have qd_0 : W11.cell? ⟨w.heap.size,0,none⟩ = some (.slice Ad d.secs.length cd):=E9 Vd.out 0;have qd_1 : W11.cell? ⟨w.heap.size,1,none⟩ = some (.slice Bd d.cache.length ed):=E9 Vd.out 1;have qd_2 : W11.cell? ⟨w.heap.size,2,none⟩ = some (.int .i64 d.fuse):=E9 Vd.out 2;have qd_3 : W11.cell? ⟨w.heap.size,3,none⟩ = some (.bool d.down):=E9 Vd.out 3;have ld : w.heap.size < W11.heap.size:=by omega
   have qr_0 : W11.cell? ⟨w.heap.size + 1,0,none⟩ = some (.slice none 0 0):=E9 Vr.out 0;have qr_1 : W11.cell? ⟨w.heap.size + 1,1,none⟩ = some (.slice none 0 0):=E9 Vr.out 1;have qr_2 : W11.cell? ⟨w.heap.size + 1,2,none⟩ = some (.int .i64 0):=E9 Vr.out 2;have qr_3 : W11.cell? ⟨w.heap.size + 1,3,none⟩ = some (.bool false):=E9 Vr.out 3;have lr : w.heap.size + 1 < W11.heap.size:=by omega
   have fr_0:=C9 Vr.out 0;have fr_1:=C9 Vr.out 1;have fr_2:=C9 Vr.out 2;have fr_3:=C9 Vr.out 3;go_wp2_with fail;refine bodyPost_ret (v:=.agg #[.slice A5 d.secs.length c6,.slice B7 d.cache.length d8,.int .i64 d.fuse,.bool d.down]) (by simp [results,Tryz.results35,go_sem,qr_0,qr_1,qr_2,qr_3]) rfl ⟨_,fp4,rfl,?_,?_⟩
   ·rw [HR.out];refine diskR.low (base:=W2.heap.size) ?_ (by omega)
    repeat (refine Rep.setLow ?_ (by first | (simp;done) | (simp;omega)) _)
    exact Oo
   ·repeat (refine Below.setCell ?_ (by first | (simp;done) | (simp;omega)) _)
    exact HBW11
 | true =>
   have hg:=Cv9 HOK.out;rcases hdn : d.down with _ | _
   rotate_left
   ·have HR:=Lib.hid (Ai9 (d:=d) (n:=n) (b:=b) (fun hh => by have:=hh.2.1;rw [hdn] at this;cases this))
    have qo_0 : W11.cell? ⟨W3.heap.size,0,none⟩ = some (.slice A5 d.secs.length c6):=E9 Vo.out 0;have qo_1 : W11.cell? ⟨W3.heap.size,1,none⟩ = some (.slice B7 d.cache.length d8):=E9 Vo.out 1;have qo_2 : W11.cell? ⟨W3.heap.size,2,none⟩ = some (.int .i64 d.fuse):=E9 Vo.out 2;have qo_3 : W11.cell? ⟨W3.heap.size,3,none⟩ = some (.bool d.down):=E9 Vo.out 3;have lo : W3.heap.size < W11.heap.size:=by omega
    have qd_0 : W11.cell? ⟨w.heap.size,0,none⟩ = some (.slice Ad d.secs.length cd):=E9 Vd.out 0;have qd_1 : W11.cell? ⟨w.heap.size,1,none⟩ = some (.slice Bd d.cache.length ed):=E9 Vd.out 1;have qd_2 : W11.cell? ⟨w.heap.size,2,none⟩ = some (.int .i64 d.fuse):=E9 Vd.out 2;have qd_3 : W11.cell? ⟨w.heap.size,3,none⟩ = some (.bool d.down):=E9 Vd.out 3;have ld : w.heap.size < W11.heap.size:=by omega
    have qr_0 : W11.cell? ⟨w.heap.size + 1,0,none⟩ = some (.slice none 0 0):=E9 Vr.out 0;have qr_1 : W11.cell? ⟨w.heap.size + 1,1,none⟩ = some (.slice none 0 0):=E9 Vr.out 1;have qr_2 : W11.cell? ⟨w.heap.size + 1,2,none⟩ = some (.int .i64 0):=E9 Vr.out 2;have qr_3 : W11.cell? ⟨w.heap.size + 1,3,none⟩ = some (.bool false):=E9 Vr.out 3;have lr : w.heap.size + 1 < W11.heap.size:=by omega
    have fr_0:=C9 Vr.out 0;have fr_1:=C9 Vr.out 1;have fr_2:=C9 Vr.out 2;have fr_3:=C9 Vr.out 3;go_wp2_with fail;refine bodyPost_ret (v:=.agg #[.slice A5 d.secs.length c6,.slice B7 d.cache.length d8,.int .i64 d.fuse,.bool d.down]) (by simp [results,Tryz.results35,go_sem,qr_0,qr_1,qr_2,qr_3,hdn]) rfl ⟨_,fp4,rfl,?_,?_⟩
    ·rw [HR.out];refine diskR.low (base:=W2.heap.size) ?_ (by omega)
     repeat (refine Rep.setLow ?_ (by first | (simp;done) | (simp;omega)) _)
     exact Oo
    ·repeat (refine Below.setCell ?_ (by first | (simp;done) | (simp;omega)) _)
     exact HBW11
   by_cases hin : 0 ≤ n∧n < (d.secs.length : Int)
   rotate_left
   ·have HR:=Lib.hid (Ai9 (d:=d) (n:=n) (b:=b) (fun hh => hin ⟨hh.2.2.1.1,by have:=hh.2.2.1.2;omega⟩))
    have Hin:=Lib.hid hin;clear hin;have qd_0 : W11.cell? ⟨w.heap.size,0,none⟩ = some (.slice Ad d.secs.length cd):=E9 Vd.out 0;have qd_1 : W11.cell? ⟨w.heap.size,1,none⟩ = some (.slice Bd d.cache.length ed):=E9 Vd.out 1;have qd_2 : W11.cell? ⟨w.heap.size,2,none⟩ = some (.int .i64 d.fuse):=E9 Vd.out 2;have qd_3 : W11.cell? ⟨w.heap.size,3,none⟩ = some (.bool d.down):=E9 Vd.out 3;have ld : w.heap.size < W11.heap.size:=by omega
    go_wp2_with fail;clear qd_0 qd_1 qd_2 qd_3 ld;refine (Mq9 [.slice Ad d.secs.length cd,.slice Bd d.cache.length ed,.int .i64 d.fuse,.bool false] d n W11 (by have hq : diskR.at_ W11 W11.heap.size [.slice Ad d.secs.length cd,.slice Bd d.cache.length ed,.int .i64 d.fuse,.bool d.down] d:=(Rep.more diskR Td (by omega));rw [hdn] at hq;exact hq) Hin.out).mono ?_
    rintro e W12 ⟨rfl,hb⟩;have ho:=Rep.only_of_below hb;clear hb;have SW12 : W11.heap.size ≤ W12.heap.size:=ho.size;have HBW12:=Rep.Only.below HBW11 ho (by omega) (fun a ha => by cases ha)
    replace Td:=Rep.at_only Td ho (by omega) (fun a ha => by cases ha)
    replace Tb:=Rep.at_only Tb ho (by omega) (fun a ha => by cases ha)
    replace Oo:=Rep.own_only Oo ho (fun a ha hb => by cases hb)
    replace Vd:=Rep.var_only Vd ho (by omega) (fun hb => by cases hb)
    replace Vr:=Rep.var_only Vr ho (by omega) (fun hb => by cases hb)
    replace Vo:=Rep.var_only Vo ho (by omega) (fun hb => by cases hb)
    clear HBW11;clear ho;have qo_0 : W12.cell? ⟨W3.heap.size,0,none⟩ = some (.slice A5 d.secs.length c6):=E9 Vo.out 0;have qo_1 : W12.cell? ⟨W3.heap.size,1,none⟩ = some (.slice B7 d.cache.length d8):=E9 Vo.out 1;have qo_2 : W12.cell? ⟨W3.heap.size,2,none⟩ = some (.int .i64 d.fuse):=E9 Vo.out 2;have qo_3 : W12.cell? ⟨W3.heap.size,3,none⟩ = some (.bool d.down):=E9 Vo.out 3;have lo : W3.heap.size < W12.heap.size:=by omega
    have qd_0 : W12.cell? ⟨w.heap.size,0,none⟩ = some (.slice Ad d.secs.length cd):=E9 Vd.out 0;have qd_1 : W12.cell? ⟨w.heap.size,1,none⟩ = some (.slice Bd d.cache.length ed):=E9 Vd.out 1;have qd_2 : W12.cell? ⟨w.heap.size,2,none⟩ = some (.int .i64 d.fuse):=E9 Vd.out 2;have qd_3 : W12.cell? ⟨w.heap.size,3,none⟩ = some (.bool d.down):=E9 Vd.out 3;have ld : w.heap.size < W12.heap.size:=by omega
    have qr_0 : W12.cell? ⟨w.heap.size + 1,0,none⟩ = some (.slice none 0 0):=E9 Vr.out 0;have qr_1 : W12.cell? ⟨w.heap.size + 1,1,none⟩ = some (.slice none 0 0):=E9 Vr.out 1;have qr_2 : W12.cell? ⟨w.heap.size + 1,2,none⟩ = some (.int .i64 0):=E9 Vr.out 2;have qr_3 : W12.cell? ⟨w.heap.size + 1,3,none⟩ = some (.bool false):=E9 Vr.out 3;have lr : w.heap.size + 1 < W12.heap.size:=by omega
    have fr_0:=C9 Vr.out 0;have fr_1:=C9 Vr.out 1;have fr_2:=C9 Vr.out 2;have fr_3:=C9 Vr.out 3;go_wp2_with fail;refine bodyPost_ret (v:=.agg #[.slice A5 d.secs.length c6,.slice B7 d.cache.length d8,.int .i64 d.fuse,.bool d.down]) (by simp [results,Tryz.results35,go_sem,qr_0,qr_1,qr_2,qr_3,hdn]) rfl ⟨_,fp4,rfl,?_,?_⟩
    ·rw [HR.out];refine diskR.low (base:=W2.heap.size) ?_ (by omega)
     repeat (refine Rep.setLow ?_ (by first | (simp;done) | (simp;omega)) _)
     exact Oo
    ·repeat (refine Below.setCell ?_ (by first | (simp;done) | (simp;omega)) _)
     exact HBW12
   have Hin:=Lib.hid hin;clear hin;have qd_0 : W11.cell? ⟨w.heap.size,0,none⟩ = some (.slice Ad d.secs.length cd):=E9 Vd.out 0;have qd_1 : W11.cell? ⟨w.heap.size,1,none⟩ = some (.slice Bd d.cache.length ed):=E9 Vd.out 1;have qd_2 : W11.cell? ⟨w.heap.size,2,none⟩ = some (.int .i64 d.fuse):=E9 Vd.out 2;have qd_3 : W11.cell? ⟨w.heap.size,3,none⟩ = some (.bool d.down):=E9 Vd.out 3;have ld : w.heap.size < W11.heap.size:=by omega
   go_wp2_with fail;clear qd_0 qd_1 qd_2 qd_3 ld;refine (Ko9 [.slice Ad d.secs.length cd,.slice Bd d.cache.length ed,.int .i64 d.fuse,.bool false] d n W11 (by have hq : diskR.at_ W11 W11.heap.size [.slice Ad d.secs.length cd,.slice Bd d.cache.length ed,.int .i64 d.fuse,.bool d.down] d:=(Rep.more diskR Td (by omega));rw [hdn] at hq;exact hq) Hin.out.1 Hin.out.2).mono ?_
   rintro e W13 ⟨rfl,hb⟩;have ho:=Rep.only_of_below hb;clear hb;have SW13 : W11.heap.size ≤ W13.heap.size:=ho.size;have HBW13:=Rep.Only.below HBW11 ho (by omega) (fun a ha => by cases ha)
   replace Td:=Rep.at_only Td ho (by omega) (fun a ha => by cases ha)
   replace Tb:=Rep.at_only Tb ho (by omega) (fun a ha => by cases ha)
   replace Oo:=Rep.own_only Oo ho (fun a ha hb => by cases hb)
   replace Vd:=Rep.var_only Vd ho (by omega) (fun hb => by cases hb)
   replace Vr:=Rep.var_only Vr ho (by omega) (fun hb => by cases hb)
   replace Vo:=Rep.var_only Vo ho (by omega) (fun hb => by cases hb)
   clear HBW11;clear ho;have HDN:=Lib.hid hdn;clear hdn;by_cases h160 : b.length ≤ 160
   rotate_left
   ·have HR:=Lib.hid (Ai9 (d:=d) (n:=n) (b:=b) (fun hh => h160 hh.2.2.2.1))
    have qo_0 : W13.cell? ⟨W3.heap.size,0,none⟩ = some (.slice A5 d.secs.length c6):=E9 Vo.out 0;have qo_1 : W13.cell? ⟨W3.heap.size,1,none⟩ = some (.slice B7 d.cache.length d8):=E9 Vo.out 1;have qo_2 : W13.cell? ⟨W3.heap.size,2,none⟩ = some (.int .i64 d.fuse):=E9 Vo.out 2;have qo_3 : W13.cell? ⟨W3.heap.size,3,none⟩ = some (.bool d.down):=E9 Vo.out 3;have lo : W3.heap.size < W13.heap.size:=by omega
    have qd_0 : W13.cell? ⟨w.heap.size,0,none⟩ = some (.slice Ad d.secs.length cd):=E9 Vd.out 0;have qd_1 : W13.cell? ⟨w.heap.size,1,none⟩ = some (.slice Bd d.cache.length ed):=E9 Vd.out 1;have qd_2 : W13.cell? ⟨w.heap.size,2,none⟩ = some (.int .i64 d.fuse):=E9 Vd.out 2;have qd_3 : W13.cell? ⟨w.heap.size,3,none⟩ = some (.bool d.down):=E9 Vd.out 3;have ld : w.heap.size < W13.heap.size:=by omega
    have qr_0 : W13.cell? ⟨w.heap.size + 1,0,none⟩ = some (.slice none 0 0):=E9 Vr.out 0;have qr_1 : W13.cell? ⟨w.heap.size + 1,1,none⟩ = some (.slice none 0 0):=E9 Vr.out 1;have qr_2 : W13.cell? ⟨w.heap.size + 1,2,none⟩ = some (.int .i64 0):=E9 Vr.out 2;have qr_3 : W13.cell? ⟨w.heap.size + 1,3,none⟩ = some (.bool false):=E9 Vr.out 3;have lr : w.heap.size + 1 < W13.heap.size:=by omega
    have fr_0:=C9 Vr.out 0;have fr_1:=C9 Vr.out 1;have fr_2:=C9 Vr.out 2;have fr_3:=C9 Vr.out 3;go_wp2_with fail;refine bodyPost_ret (v:=.agg #[.slice A5 d.secs.length c6,.slice B7 d.cache.length d8,.int .i64 d.fuse,.bool d.down]) (by simp [results,Tryz.results35,go_sem,qr_0,qr_1,qr_2,qr_3]) rfl ⟨_,fp4,rfl,?_,?_⟩
    ·rw [HR.out];refine diskR.low (base:=W2.heap.size) ?_ (by omega)
     repeat (refine Rep.setLow ?_ (by first | (simp;done) | (simp;omega)) _)
     exact Oo
    ·repeat (refine Below.setCell ?_ (by first | (simp;done) | (simp;omega)) _)
     exact HBW13
   by_cases h30 : d.cache.length = 30
   ·have HR:=Lib.hid (Ai9 (d:=d) (n:=n) (b:=b) (fun hh => hh.2.2.2.2 h30))
    have g30 : ((d.cache.length : Int) == 30) = true:=by simp;omega
    clear h30;have qo_0 : W13.cell? ⟨W3.heap.size,0,none⟩ = some (.slice A5 d.secs.length c6):=E9 Vo.out 0;have qo_1 : W13.cell? ⟨W3.heap.size,1,none⟩ = some (.slice B7 d.cache.length d8):=E9 Vo.out 1;have qo_2 : W13.cell? ⟨W3.heap.size,2,none⟩ = some (.int .i64 d.fuse):=E9 Vo.out 2;have qo_3 : W13.cell? ⟨W3.heap.size,3,none⟩ = some (.bool d.down):=E9 Vo.out 3;have lo : W3.heap.size < W13.heap.size:=by omega
    have qd_0 : W13.cell? ⟨w.heap.size,0,none⟩ = some (.slice Ad d.secs.length cd):=E9 Vd.out 0;have qd_1 : W13.cell? ⟨w.heap.size,1,none⟩ = some (.slice Bd d.cache.length ed):=E9 Vd.out 1;have qd_2 : W13.cell? ⟨w.heap.size,2,none⟩ = some (.int .i64 d.fuse):=E9 Vd.out 2;have qd_3 : W13.cell? ⟨w.heap.size,3,none⟩ = some (.bool d.down):=E9 Vd.out 3;have ld : w.heap.size < W13.heap.size:=by omega
    have qr_0 : W13.cell? ⟨w.heap.size + 1,0,none⟩ = some (.slice none 0 0):=E9 Vr.out 0;have qr_1 : W13.cell? ⟨w.heap.size + 1,1,none⟩ = some (.slice none 0 0):=E9 Vr.out 1;have qr_2 : W13.cell? ⟨w.heap.size + 1,2,none⟩ = some (.int .i64 0):=E9 Vr.out 2;have qr_3 : W13.cell? ⟨w.heap.size + 1,3,none⟩ = some (.bool false):=E9 Vr.out 3;have lr : w.heap.size + 1 < W13.heap.size:=by omega
    have fr_0:=C9 Vr.out 0;have fr_1:=C9 Vr.out 1;have fr_2:=C9 Vr.out 2;have fr_3:=C9 Vr.out 3;go_wp2_with fail;refine bodyPost_ret (v:=.agg #[.slice A5 d.secs.length c6,.slice B7 d.cache.length d8,.int .i64 d.fuse,.bool d.down]) (by simp [results,Tryz.results35,go_sem,qr_0,qr_1,qr_2,qr_3]) rfl ⟨_,fp4,rfl,?_,?_⟩
    ·rw [HR.out];refine diskR.low (base:=W2.heap.size) ?_ (by omega)
     repeat (refine Rep.setLow ?_ (by first | (simp;done) | (simp;omega)) _)
     exact Oo
    ·repeat (refine Below.setCell ?_ (by first | (simp;done) | (simp;omega)) _)
     exact HBW13
   have g30 : ((d.cache.length : Int) == 30) = false:=by simp;omega
   have HG : Hid (Bj9 d n b):=Lib.hid ⟨hg,HDN.out,⟨Hin.out.1,by have:=Hin.out.2;omega⟩,h160,h30⟩
   have hfu1 : -1 ≤ d.fuse:=hg.2.2.2.1;have hfu2 : d.fuse ≤ 1000:=hg.2.2.2.2;have h29 : d.cache.length ≤ 30:=hg.1.2.2;have HW:=Lib.hid (Sl9 hg);clear h30 hg;obtain ⟨u1,u2,ff,fc,hcs,ho1,ho2,hfp,hnd⟩:=Hi9 Oo;have e1 : u1 = .slice A5 d.secs.length c6:=by injection hcs with h1 _;exact h1.symm
   have e2 : u2 = .slice B7 d.cache.length d8:=by injection hcs with _ h2;injection h2 with h2 _;exact h2.symm
   subst e1 e2;clear hcs;have HN:=Lib.hid hnd;have HFP:=Lib.hid hfp;clear hnd hfp Oo;have LS:=Lib.hid (fun a ha => L9.out a (by rw [HFP.out];exact List.mem_append_left _ ha))
   have LC:=Lib.hid (fun a ha => L9.out a (by rw [HFP.out];exact List.mem_append_right _ ha))
   obtain ⟨Ax,cx,hax,_,hrs⟩:=ho1.reads;injection hax with hax1 _ hax2;subst hax1 hax2;obtain ⟨Ay,cy,hay,hcy,hmy,hrc⟩:=ho2.reads;injection hay with hay1 _ hay2;subst hay1 hay2;obtain ⟨_,cells,hrd,hel⟩:=hrc;have HE:=Lib.hid hel;clear hel hrs;have qo_0 : W13.cell? ⟨W3.heap.size,0,none⟩ = some (.slice A5 d.secs.length c6):=E9 Vo.out 0;have qo_1 : W13.cell? ⟨W3.heap.size,1,none⟩ = some (.slice B7 d.cache.length d8):=E9 Vo.out 1;have qo_2 : W13.cell? ⟨W3.heap.size,2,none⟩ = some (.int .i64 d.fuse):=E9 Vo.out 2;have qo_3 : W13.cell? ⟨W3.heap.size,3,none⟩ = some (.bool d.down):=E9 Vo.out 3;have lo : W3.heap.size < W13.heap.size:=by omega
   have qd_0 : W13.cell? ⟨w.heap.size,0,none⟩ = some (.slice Ad d.secs.length cd):=E9 Vd.out 0;have qd_1 : W13.cell? ⟨w.heap.size,1,none⟩ = some (.slice Bd d.cache.length ed):=E9 Vd.out 1;have qd_2 : W13.cell? ⟨w.heap.size,2,none⟩ = some (.int .i64 d.fuse):=E9 Vd.out 2;have qd_3 : W13.cell? ⟨w.heap.size,3,none⟩ = some (.bool d.down):=E9 Vd.out 3;have ld : w.heap.size < W13.heap.size:=by omega
   go_wp2_with fail;clear qo_0 qo_1 qo_2 qo_3 lo qd_0 qd_1 qd_2 qd_3 ld;refine (Ix9 A5 B7 c6 d8 d cells W13 hrd HE.out f3 HW.out).mono ?_;rintro e W14 ⟨gd,mb,rfl,vd,hmd,hb,hgd1,hgd2,hgd3⟩;have ho:=Rep.only_of_below hb;replace ho1:=ho1.of_below hb;replace ho2:=ho2.of_below hb;clear hb hrd;have SW14 : W13.heap.size ≤ W14.heap.size:=ho.size;have HBW14:=Rep.Only.below HBW13 ho (by omega) (fun a ha => by cases ha)
   replace Td:=Rep.at_only Td ho (by omega) (fun a ha => by cases ha)
   replace Tb:=Rep.at_only Tb ho (by omega) (fun a ha => by cases ha)
   replace Vd:=Rep.var_only Vd ho (by omega) (fun hb => by cases hb)
   replace Vr:=Rep.var_only Vr ho (by omega) (fun hb => by cases hb)
   replace Vo:=Rep.var_only Vo ho (by omega) (fun hb => by cases hb)
   clear HBW13;clear ho;have Vd2:=Lib.hid vd;clear vd;have hgl : gd < W14.heap.size:=World.block_lt_of_cell? _ ⟨gd,0,none⟩ (E9 Vd2.out 0);have hml:=hmd.lt;by_cases hz : d.fuse = 0
   ·have HR:=Lib.hid (Dg9 HG.out hz)
    have Vz : Hid (W14.heap[gd]? = some (.cells #[.slice A5 d.secs.length c6,.slice B7 d.cache.length d8,.int .i64 0,.bool d.down,.map (some mb)] 111 (0,0))):=Lib.hid (by have:=Vd2.out;rw [hz] at this;exact this)
    clear hz;go_wp2_with fail;refine (Nu9 gd (.slice A5 d.secs.length c6) (.slice B7 d.cache.length d8) (.map (some mb)) d.down n _ W14 Vz.out).mono ?_;rintro e W15 ⟨rfl,Vd3,ho⟩;have LF:=Lib.hid (fun a (ha : a ∈ [gd]) => (by simp at ha;omega : W13.heap.size ≤ a∧a < W14.heap.size))
    replace ho1:=ho1.kept (fun a ha => ho.block a (by have:=(LS.out a ha).2;omega) (by have:=(LS.out a ha).2;simp;omega))
    replace ho2:=ho2.kept (fun a ha => ho.block a (by have:=(LC.out a ha).2;omega) (by have:=(LC.out a ha).2;simp;omega))
    have SW15 : W14.heap.size ≤ W15.heap.size:=ho.size;have HBW15:=Rep.Only.below HBW14 ho (by omega) (fun a ha => by have:=(LF.out a ha).1;omega)
    replace Td:=Rep.at_only Td ho (by omega) (fun a ha => by have:=(LF.out a ha).1;omega)
    replace Tb:=Rep.at_only Tb ho (by omega) (fun a ha => by have:=(LF.out a ha).1;omega)
    replace Vd:=Rep.var_only Vd ho (by omega) (fun hb => by have:=LF.out _ hb;omega)
    replace Vr:=Rep.var_only Vr ho (by omega) (fun hb => by have:=LF.out _ hb;omega)
    replace Vo:=Rep.var_only Vo ho (by omega) (fun hb => by have:=LF.out _ hb;omega)
    clear HBW14;clear ho LF;have d0 : W15.cell? ⟨gd,0,none⟩ = some (.slice A5 d.secs.length c6):=E9 Vd3.out 0;have d1 : W15.cell? ⟨gd,1,none⟩ = some (.slice B7 d.cache.length d8):=E9 Vd3.out 1;have d2 : W15.cell? ⟨gd,2,none⟩ = some (.int .i64 (-1)):=E9 Vd3.out 2;have d3 : W15.cell? ⟨gd,3,none⟩ = some (.bool true):=E9 Vd3.out 3;have qr_0 : W15.cell? ⟨w.heap.size + 1,0,none⟩ = some (.slice none 0 0):=E9 Vr.out 0;have qr_1 : W15.cell? ⟨w.heap.size + 1,1,none⟩ = some (.slice none 0 0):=E9 Vr.out 1;have qr_2 : W15.cell? ⟨w.heap.size + 1,2,none⟩ = some (.int .i64 0):=E9 Vr.out 2;have qr_3 : W15.cell? ⟨w.heap.size + 1,3,none⟩ = some (.bool false):=E9 Vr.out 3;have lr : w.heap.size + 1 < W15.heap.size:=by omega
    have fr_0:=C9 Vr.out 0;have fr_1:=C9 Vr.out 1;have fr_2:=C9 Vr.out 2;have fr_3:=C9 Vr.out 3;go_wp2_with fail;refine bodyPost_ret (v:=.agg #[.slice A5 d.secs.length c6,.slice B7 d.cache.length d8,.int .i64 (-1),.bool true]) (by simp [results,Tryz.results35,go_sem,qr_0,qr_1,qr_2,qr_3]) rfl ⟨_,ff ++ fc,rfl,?_,?_⟩
    ·rw [HR.out];refine diskR.low (base:=W2.heap.size) ?_ (by omega)
     repeat (refine Rep.setLow ?_ (by first | (simp;done) | (simp;omega)) _)
     exact Ck9 (d:=⟨d.secs,d.cache,-1,true⟩) ho1 ho2 (by rw [← HFP.out];exact HN.out)
    ·repeat (refine Below.setCell ?_ (by first | (simp;done) | (simp;omega)) _)
     exact HBW15
   have HR:=Lib.hid (Aj9 HG.out hz);have HZ:=Lib.hid hz;clear hz;go_wp2_with fail;obtain ⟨_,_,hb1,_,hrb⟩:=Tb;injection hb1 with hb1;injection hb1 with hb1 _ hb2;subst hb1 hb2;have hgc : gd ∉ fc:=fun h => by have:=(LC.out _ h).2;omega
   have hmc : mb ∉ fc:=fun h => by have:=(LC.out _ h).2;omega
   refine (Ra9 gd mb d.cache.length (W2.heap.size) w.heap.size (.slice A5 d.secs.length c6) B7 d8 d.cache fc d.fuse d.down n Ab cb b cells _ W14 Vd2.out hmd f3 ho2 hgc hmc hgd3 hrb (by omega) (by omega) (by omega) (by omega) HZ.out hfu1 hfu2 hfb f3 hwn).mono ?_
   rintro e W16 ⟨A4,c4,fp4,rfl,Vd3,ho2s,hf4,ho⟩;have LF:=Lib.hid (fun a (ha : a ∈ gd :: mb :: fc) => (by simp at ha;rcases ha with rfl | rfl | ha;(omega);(omega);(have:=LC.out a ha;omega) : W2.heap.size ≤ a∧a < W14.heap.size))
   have ho1s:=ho1.kept (fun a ha => ho.block a (by have:=(LS.out a ha).2;omega) (fun hc => by simp at hc;rcases hc with rfl | rfl | hc;(have:=(LS.out _ ha).2;omega);(have:=(LS.out _ ha).2;omega);exact (List.nodup_append.1 (HFP.out ▸ HN.out)).2.2 a ha a hc rfl))
   have hdis : ∀ a, a ∈ ff → a ∈ fp4 → False := fun a ha hc => by
         rcases hf4.out a hc with h | h
         ·exact (List.nodup_append.1 (HFP.out ▸ HN.out)).2.2 a ha a h rfl
         ·have h2:=(LS.out a ha).2;omega
   have HD:=Lib.hid hdis;clear hdis;have SW16 : W14.heap.size ≤ W16.heap.size:=ho.size;have HBW16:=Rep.Only.below HBW14 ho (by omega) (fun a ha => by have:=(LF.out a ha).1;omega)
   replace Td:=Rep.at_only Td ho (by omega) (fun a ha => by have:=(LF.out a ha).1;omega)
   replace Vd:=Rep.var_only Vd ho (by omega) (fun hb => by have:=LF.out _ hb;omega)
   replace Vr:=Rep.var_only Vr ho (by omega) (fun hb => by have:=LF.out _ hb;omega)
   clear HBW14;clear ho LF;have hl5 : (d.cache ++ [(⟨n,b⟩ : Wr)]).length = d.cache.length + 1:=by simp
   have d0 : W16.cell? ⟨gd,0,none⟩ = some (.slice A5 d.secs.length c6):=E9 Vd3.out 0;have d1 : W16.cell? ⟨gd,1,none⟩ = some (.slice A4 (d.cache.length + 1) c4):=E9 Vd3.out 1;have d2 : W16.cell? ⟨gd,2,none⟩ = some (.int .i64 (X9 d.fuse)):=E9 Vd3.out 2;have d3 : W16.cell? ⟨gd,3,none⟩ = some (.bool d.down):=E9 Vd3.out 3;have qr_0 : W16.cell? ⟨w.heap.size + 1,0,none⟩ = some (.slice none 0 0):=E9 Vr.out 0;have qr_1 : W16.cell? ⟨w.heap.size + 1,1,none⟩ = some (.slice none 0 0):=E9 Vr.out 1;have qr_2 : W16.cell? ⟨w.heap.size + 1,2,none⟩ = some (.int .i64 0):=E9 Vr.out 2;have qr_3 : W16.cell? ⟨w.heap.size + 1,3,none⟩ = some (.bool false):=E9 Vr.out 3;have lr : w.heap.size + 1 < W16.heap.size:=by omega
   have fr_0:=C9 Vr.out 0;have fr_1:=C9 Vr.out 1;have fr_2:=C9 Vr.out 2;have fr_3:=C9 Vr.out 3;go_wp2_with fail;refine bodyPost_ret (v:=.agg #[.slice A5 d.secs.length c6,.slice A4 (d.cache.length + 1) c4,.int .i64 (X9 d.fuse),.bool d.down]) (by simp [results,Tryz.results35,go_sem,qr_0,qr_1,qr_2,qr_3]) rfl ⟨_,ff ++ fp4,rfl,?_,?_⟩
   ·rw [HR.out];refine diskR.low (base:=W2.heap.size) ?_ (by omega)
    repeat (refine Rep.setLow ?_ (by first | (simp;done) | (simp;omega)) _)
    exact Ck9 (d:=⟨d.secs,d.cache ++ [⟨n,b⟩],X9 d.fuse,d.down⟩) ho1s ho2s (Rep.nodup_append_of (List.nodup_append.1 (HFP.out ▸ HN.out)).1 (Rep.nodup cacheR (w:=W16) (base:=W2.heap.size) (cs:=[.slice A4 (d.cache.length + 1) c4]) ⟨_,rfl,ho2s⟩) HD.out)
   ·repeat (refine Below.setCell ?_ (by first | (simp;done) | (simp;omega)) _)
    exact HBW16
end Go.Proofs.YthpkdjflndiojaaGreatDoor
