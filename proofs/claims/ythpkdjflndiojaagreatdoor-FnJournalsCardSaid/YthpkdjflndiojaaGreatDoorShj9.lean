/- What the theorem needs, out of many texts. -/
import Derived.Test.YthpkdjflndiojaaGreatDoorShj8
set_option maxHeartbeats 20000000
namespace Go.Proofs.YthpkdjflndiojaaGreatDoor
open Go.RowKit
set_option maxRecDepth 100000
set_option linter.unusedVariables false
theorem Vn9 {x : Int} {b : Bool} (h : inI x 0 65535 = b) (w : World) : Calls Tryz.prog 63 #[.int .i64 x] w fun e w' => e = .returned (.bool b)∧w = w':=by
 go_enter Tryz.func63,Tryz.ntmps63
 go_wp2_with (go_at_call 62;refine (M7 h _).mono ?_;rintro e w' ⟨rfl,rfl⟩)
 go_ret
 exact ⟨rfl,rfl⟩
set_option maxRecDepth 100000 in
theorem Mi9 (g p : Int) (r : Rec) (w : World) {b0 b1 b2 : Bool} (h0 : Ak9 r = b0) (h1 : inI g 0 65535 = b1) (h2 : inI p 0 65535 = b2) (hb : (b0 && (b1 && b2)) = false) (hg : Given w) :
 Calls Tryz.prog 27 #[.int .i64 g,.int .i64 p,.agg (M8 r).toArray] w (Gv9 w []):=by
 have S : All (BOX w r) (w.alloc (.cells #[.int .i64 r.kind,.int .i64 r.n,.int .i64 r.owner,.string r.text] 29)):=⟨Later.alloc w _,Keeps.keeps (F:=Given) (Later.alloc w _) hg,Lib.hid (heap_alloc_new w _)⟩;have H0:=Lib.hid h0;clear hg h0;show Calls Tryz.prog 27 #[.int .i64 g,.int .i64 p,.agg #[.int .i64 r.kind,.int .i64 r.n,.int .i64 r.owner,.string r.text]] w _
 cases b0;rotate_left;cases b1;rotate_left;cases b2;rotate_left
 ·cases hb
 all_goals
  clear hb;go_enter Tryz.func27,Tryz.ntmps27
  go_wp2_with fail;generalize w.alloc (.cells #[.int .i64 r.kind,.int .i64 r.n,.int .i64 r.owner,.string r.text] 29) = W at S ⊢;refine (By9 r W).mono ?_;rw [H0.out];rintro e W1 ⟨rfl,hb⟩;replace S:=S.later hb;clear hb;go_wp2_with (go_at_call 63;refine (Vn9 (by assumption) _).mono ?_;rintro e w' ⟨rfl,rfl⟩)
  go_ret
  exact ⟨_,rfl,En9 W1 _ S.out.1.size,Below.alloc S.out.1 S.out.1.size _⟩
set_option maxRecDepth 100000 in
theorem Cu8 (g p : Int) (r : Rec) (w : World) (hg : Given w) (hs : r.text.size ≤ 1048576) (h0 : Ak9 r = true) (h1 : inI g 0 65535 = true) (h2 : inI p 0 65535 = true) :
 Calls Tryz.prog 27 #[.int .i64 g,.int .i64 p,.agg (M8 r).toArray] w (Gv9 w (Q7 (X7 g p r))):=by
 obtain ⟨i0,hi0,hz0,hz1,hz2⟩:=info_parts Tryz.info8;have S : All (BOX w r) (w.alloc (.cells #[.int .i64 r.kind,.int .i64 r.n,.int .i64 r.owner,.string r.text] 29)):=⟨Later.alloc w _,Keeps.keeps (F:=Given) (Later.alloc w _) hg,Lib.hid (heap_alloc_new w _)⟩;have H0:=Lib.hid h0;clear hg h0;show Calls Tryz.prog 27 #[.int .i64 g,.int .i64 p,.agg #[.int .i64 r.kind,.int .i64 r.n,.int .i64 r.owner,.string r.text]] w _
 go_enter Tryz.func27,Tryz.ntmps27
 go_wp2_with fail;generalize w.alloc (.cells #[.int .i64 r.kind,.int .i64 r.n,.int .i64 r.owner,.string r.text] 29) = W at S ⊢;refine (By9 r W).mono ?_;rw [H0.out];rintro e W1 ⟨rfl,hb⟩;replace S:=S.later hb;clear hb;go_wp2_with (go_at_call 63;refine (Vn9 (by assumption) _).mono ?_;rintro e w' ⟨rfl,rfl⟩)
 clear h1 h2;refine Ad9 100 (fun w' => Below W1.heap.size W1 w') (by kernel_rfl) ?_
 have hb1 : Below W1.heap.size W1 W1.drew:=Later.drew W1;refine Y9 [1,3,5,6,7] (fuel:=6) (by kernel_rfl) hb1 ?_
 iterate 5 (refine LexR.cons rfl ?_ (fun w' hw => ?_) ?_;rotate_left;focus (have hS:=S.later hw;obtain ⟨d0,d1,d2,d3⟩:=J9 hS.out.2.2.out;clear hS;go_simp;(try exact rfl));(try go_frame))
 refine LexR.nil ?_;generalize W1.drew = V2 at hb1 ⊢;refine As9 (i:=0) (j:=8) (by kernel_rfl) ?_ ?_
 ·refine K9 rfl ?_
  try go_frame
  go_wp2_with fail;have ha4:=Later.alloc V2 (.cells #[] 5);refine ⟨fun _ => Later.trans hb1 ha4,?_⟩
  generalize V2.alloc (.cells #[] 5) = V3 at ha4 ⊢;generalize (some (⟨V2.heap.size,0,none⟩ : Addr)) = g5;have hb7 : Below W1.heap.size W1 V3:=Later.trans hb1 ha4;clear hb1 ha4;have q6 : Reads V3 V3.heap.size 1 g5 ([] : List UInt8).length (bys []):=⟨rfl,fun h => absurd h (by decide)⟩
  refine As9 (i:=2) (j:=8) (by kernel_rfl) ?_ ?_
  ·refine K9 rfl ?_
   try go_frame
   go_wp2_with fail;refine (I8 g5 0 g ([] : List UInt8) V3 q6 (by simp)).mono ?_
   rintro e V8 ⟨v10,rfl,o11,ha9⟩;replace o11:=ownsRow_mono o11 hb7.size;clear q6;have hb15 : Below W1.heap.size W1 V8:=Later.trans hb7 ha9;clear hb7 ha9;obtain ⟨A12,c13,rfl,_,_,q14,_⟩:=Owns.shape o11;have o11x : Owns V8 W1.heap.size 5 (.slice A12 ([] ++ F9 g).length c13) ([] ++ F9 g):=o11;clear o11;have l16B : Hid (([] ++ F9 g).length = 2):=Lib.hid (by simp [F9])
   have l16E : Hid ([] ++ F9 g = [] ++ F9 g):=Lib.hid rfl;revert l16E
   generalize hl : [] ++ F9 g = l16 at q14 o11x l16B ⊢;intro _;have l16E:=Lib.hid hl;clear hl;go_wp2_with fail;refine ⟨fun _ => hb15,?_⟩
   clear o11x;refine As9 (i:=4) (j:=8) (by kernel_rfl) ?_ ?_
   ·refine K9 rfl ?_
    try go_frame
    go_wp2_with fail;refine (I8 A12 c13 p l16 V8 q14 (by have:=l16B.out;omega)).mono ?_
    rintro e V17 ⟨v19,rfl,o20,ha18⟩;replace o20:=ownsRow_mono o20 hb15.size;clear q14;have hb24 : Below W1.heap.size W1 V17:=Later.trans hb15 ha18;clear hb15 ha18;obtain ⟨A21,c22,rfl,_,_,q23,_⟩:=Owns.shape o20;have o20x : Owns V17 W1.heap.size 5 (.slice A21 (l16 ++ F9 p).length c22) (l16 ++ F9 p):=o20;clear o20;have l25B : Hid ((l16 ++ F9 p).length = 4):=Lib.hid (by have:=l16B.out;simp [F9];omega)
    have l25E : Hid (l16 ++ F9 p = l16 ++ F9 p):=Lib.hid rfl;revert l25E
    generalize hl : l16 ++ F9 p = l25 at q23 o20x l25B ⊢;intro _;have l25E:=Lib.hid hl;clear hl;go_wp2_with fail;refine ⟨fun _ => hb24,?_⟩
    clear q23;refine R9 (i:=8) (by kernel_rfl) ?_
    refine K9 rfl ?_;try go_frame
    go_wp2_with fail;have u26:=Ec9 V17 r.kind;have ha28:=Later.alloc V17 (.cells #[.int .u8 (r.kind % 256)] 5);refine ⟨fun _ => Later.trans hb24 ha28,?_⟩
    generalize V17.alloc (.cells #[.int .u8 (r.kind % 256)] 5) = V27 at u26 ha28 ⊢;generalize (some (⟨V17.heap.size,0,none⟩ : Addr)) = g29 at u26 ⊢;replace o20x : Owns V27 W1.heap.size 5 (.slice A21 l25.length c22) l25:=o20x.keep ha28;have hb30 : Below W1.heap.size W1 V27:=Later.trans hb24 ha28;clear hb24 ha28;refine R9 (i:=9) (by kernel_rfl) ?_
    refine K9 rfl ?_;try go_frame
    refine wpList_append_any _ rfl (.tmp 26) (.tmp 30) _ rfl W1.heap.size 5 i0 _ 1 1 Tryz.underlying22 hi0 hz0 hz1 hz2 rfl (by omega) (.slice A21 l25.length c22) l25.length (bys l25) rfl o20x V27.heap.size g29 1 1 (bys [u8 r.kind]) rfl u26 (bys_one _) (by have:=l25B.out;simp only [maxLen];omega) (by have:=l25B.out;omega) hb30.size ?_
    intro v31 V32 o33 hg34 _;have hb38 : Below W1.heap.size W1 V32:=Below.grown hb30 hg34 hb30.size (fun k hk => (o20x.lt k hk).1)
    have o33x : Owns V32 W1.heap.size 5 v31 (l25 ++ [u8 r.kind]):=by unfold Owns;rw [bys_append,List.length_append];exact o33
    obtain ⟨A35,c36,rfl,_,_,q37,_⟩:=Owns.shape o33x;have l39B:=Lib.hid (Cq9 (l':=[]) l25B.out (u8 r.kind));clear o33 o33x hg34 o20x u26 hb30;generalize hl : l25 ++ [u8 r.kind] = l39 at q37 l39B ⊢;have l39E:=Lib.hid hl;clear hl;go_wp2_with fail;refine ⟨fun _ => hb38,?_⟩
    refine F8 [10] (by kernel_rfl) (LexW.cons rfl ?_)
    try go_frame
    go_wp2_with fail;refine ⟨fun _ => hb38,LexW.nil ?_⟩
    have S40:=S.later hb38;clear hb38;go_wp2_with fail;refine Ad9 100 (fun w' => Below V32.heap.size V32 w') (by kernel_rfl) ?_
    have hb41 : Below V32.heap.size V32 V32.drew:=Later.drew V32;refine Y9 [0,1,2,4,5,6,9,10] (fuel:=5) (by kernel_rfl) hb41 ?_
    iterate 8 (refine LexR.cons rfl ?_ (fun w' hw => ?_) ?_;rotate_left;focus (have hS:=S40.later hw;obtain ⟨d0,d1,d2,d3⟩:=J9 hS.out.2.2.out;clear hS;go_simp;(try exact rfl));(try go_frame))
    refine LexR.nil ?_;generalize V32.drew = V42 at hb41 ⊢;have q43 : Reads V42 V42.heap.size 1 A35 l39.length (bys l39):=Keeps.keeps (F:=fun w' => Reads w' w'.heap.size 1 A35 l39.length (bys l39)) hb41 q37
    clear q37;refine As9 (i:=3) (j:=7) (by kernel_rfl) ?_ ?_
    ·refine K9 rfl ?_
     try go_frame
     go_wp2_with fail;refine (I8 A35 c36 r.n l39 V42 q43 (by have:=l39B.out;omega)).mono ?_
     rintro e V44 ⟨v46,rfl,o47,ha45⟩;replace o47:=ownsRow_mono o47 hb41.size;clear q43;have hb51 : Below V32.heap.size V32 V44:=Later.trans hb41 ha45;clear hb41 ha45;obtain ⟨A48,c49,rfl,_,_,q50,_⟩:=Owns.shape o47;have o47x : Owns V44 V32.heap.size 5 (.slice A48 (l39 ++ F9 r.n).length c49) (l39 ++ F9 r.n):=o47;clear o47;have l52B : Hid ((l39 ++ F9 r.n).length = 7):=Lib.hid (by have:=l39B.out;simp [F9];omega)
     have l52E : Hid (l39 ++ F9 r.n = l39 ++ F9 r.n):=Lib.hid rfl;revert l52E
     generalize hl : l39 ++ F9 r.n = l52 at q50 o47x l52B ⊢;intro _;have l52E:=Lib.hid hl;clear hl;go_wp2_with fail;refine ⟨fun _ => hb51,?_⟩
     clear q50;refine R9 (i:=7) (by kernel_rfl) ?_
     refine K9 rfl ?_;try go_frame
     go_wp2_with fail;have u53:=Ec9 V44 r.owner;have ha55:=Later.alloc V44 (.cells #[.int .u8 (r.owner % 256)] 5);refine ⟨fun _ => Later.trans hb51 ha55,?_⟩
     generalize V44.alloc (.cells #[.int .u8 (r.owner % 256)] 5) = V54 at u53 ha55 ⊢;generalize (some (⟨V44.heap.size,0,none⟩ : Addr)) = g56 at u53 ⊢;replace o47x : Owns V54 V32.heap.size 5 (.slice A48 l52.length c49) l52:=o47x.keep ha55;have hb57 : Below V32.heap.size V32 V54:=Later.trans hb51 ha55;clear hb51 ha55;refine R9 (i:=8) (by kernel_rfl) ?_
     refine K9 rfl ?_;try go_frame
     refine wpList_append_any _ rfl (.tmp 35) (.tmp 39) _ rfl V32.heap.size 5 i0 _ 1 1 Tryz.underlying22 hi0 hz0 hz1 hz2 rfl (by omega) (.slice A48 l52.length c49) l52.length (bys l52) rfl o47x V54.heap.size g56 1 1 (bys [u8 r.owner]) rfl u53 (bys_one _) (by have:=l52B.out;simp only [maxLen];omega) (by have:=l52B.out;omega) hb57.size ?_
     intro v58 V59 o60 hg61 _;have hb65 : Below V32.heap.size V32 V59:=Below.grown hb57 hg61 hb57.size (fun k hk => (o47x.lt k hk).1)
     have o60x : Owns V59 V32.heap.size 5 v58 (l52 ++ [u8 r.owner]):=by unfold Owns;rw [bys_append,List.length_append];exact o60
     obtain ⟨A62,c63,rfl,_,_,q64,_⟩:=Owns.shape o60x;have l66B:=Lib.hid (Cq9 (l':=[]) l52B.out (u8 r.owner));clear o60 o60x hg61 o47x u53 hb57;generalize hl : l52 ++ [u8 r.owner] = l66 at q64 l66B ⊢;have l66E:=Lib.hid hl;clear hl;go_wp2_with fail;refine ⟨fun _ => hb65,?_⟩
     refine R9 (i:=11) (by kernel_rfl) ?_
     refine K9 rfl ?_;try go_frame
     go_wp2_with fail;refine (Bq9 A62 c63 r.text l66 V59 q64 (by have:=l66B.out;omega) (by omega)).mono ?_
     rintro e V67 ⟨v69,rfl,o70,ha68⟩;replace o70:=ownsRow_mono o70 hb65.size;clear q64;have hb74 : Below V32.heap.size V32 V67:=Later.trans hb65 ha68;clear hb65 ha68;obtain ⟨A71,c72,rfl,_,_,q73,_⟩:=Owns.shape o70;have o70x : Owns V67 V32.heap.size 5 (.slice A71 (ptB l66 r.text.data.toList).length c72) (ptB l66 r.text.data.toList):=o70;clear o70;have l75B : Hid ((ptB l66 r.text.data.toList).length ≤ 109):=Lib.hid (by have:=l66B.out;have:=Ev9 l66 r.text.data.toList;omega)
     have l75E : Hid (ptB l66 r.text.data.toList = ptB l66 r.text.data.toList):=Lib.hid rfl;revert l75E
     generalize hl : ptB l66 r.text.data.toList = l75 at q73 o70x l75B ⊢;intro _;have l75E:=Lib.hid hl;clear hl;go_wp2_with fail;refine ⟨fun _ => hb74,?_⟩
     clear o70x;refine F8 [12] (by kernel_rfl) (LexW.cons rfl ?_)
     try go_frame
     go_wp2_with fail;refine ⟨fun _ => hb74,LexW.nil ?_⟩
     have S76:=S40.later hb74;clear hb74;go_wp2_with fail;refine (Dw9 A71 c72 l75 V67 q73 (by have:=l75B.out;omega)).mono ?_
     rintro e W8 ⟨rfl,rfl⟩;go_wp2_with fail;refine (I8 A71 c72 (crc l75) l75 V67 q73 (by have:=l75B.out;omega)).mono ?_
     rintro e W9 ⟨v9,rfl,o9,hb⟩;have O9:=ownsRow_mono o9 S76.out.1.size;replace S76:=S76.later hb;clear hb o9
     have HE := Lib.hid (show l75 ++ F9 (crc l75) = Q7 (X7 g p r) by
        have hh : l75 = ptB ((((F9 g ++ F9 p) ++ [u8 r.kind]) ++ F9 r.n) ++ [u8 r.owner]) r.text.data.toList:=by rw [← l75E.out,← l66E.out,← l52E.out,← l39E.out,← l25E.out,← l16E.out];simp
        unfold Q7 X7;rw [hh])
     go_wp2_with fail;go_ret
     exact ⟨v9,rfl,by rw [← HE.out];exact O9,S76.out.1⟩
    ·refine K9 rfl ?_
     try go_frame
     go_wp2_with fail;have u77:=Ec9 V42 r.owner;have ha79:=Later.alloc V42 (.cells #[.int .u8 (r.owner % 256)] 5);refine ⟨fun _ => Later.trans hb41 ha79,?_⟩
     generalize V42.alloc (.cells #[.int .u8 (r.owner % 256)] 5) = V78 at u77 ha79 ⊢;generalize (some (⟨V42.heap.size,0,none⟩ : Addr)) = g80 at u77 ⊢;replace q43 : Reads V78 V78.heap.size 1 A35 l39.length (bys l39):=Keeps.keeps (F:=fun w' => Reads w' w'.heap.size 1 A35 l39.length (bys l39)) ha79 q43
     have hb81 : Below V32.heap.size V32 V78:=Later.trans hb41 ha79;clear hb41 ha79;refine R9 (i:=3) (by kernel_rfl) ?_
     refine K9 rfl ?_;try go_frame
     go_wp2_with fail;refine (I8 A35 c36 r.n l39 V78 q43 (by have:=l39B.out;omega)).mono ?_
     rintro e V82 ⟨v84,rfl,o85,ha83⟩;replace o85:=ownsRow_mono o85 hb81.size;clear q43;replace u77 : Reads V82 V82.heap.size 1 g80 1 (bys [u8 r.owner]):=Keeps.keeps (F:=fun w' => Reads w' w'.heap.size 1 g80 1 (bys [u8 r.owner])) ha83 u77
     have hb89 : Below V32.heap.size V32 V82:=Later.trans hb81 ha83;clear hb81 ha83;obtain ⟨A86,c87,rfl,_,_,q88,_⟩:=Owns.shape o85;have o85x : Owns V82 V32.heap.size 5 (.slice A86 (l39 ++ F9 r.n).length c87) (l39 ++ F9 r.n):=o85;clear o85;have l90B : Hid ((l39 ++ F9 r.n).length = 7):=Lib.hid (by have:=l39B.out;simp [F9];omega)
     have l90E : Hid (l39 ++ F9 r.n = l39 ++ F9 r.n):=Lib.hid rfl;revert l90E
     generalize hl : l39 ++ F9 r.n = l90 at q88 o85x l90B ⊢;intro _;have l90E:=Lib.hid hl;clear hl;go_wp2_with fail;refine ⟨fun _ => hb89,?_⟩
     clear q88;refine R9 (i:=8) (by kernel_rfl) ?_
     refine K9 rfl ?_;try go_frame
     refine wpList_append_any _ rfl (.tmp 35) (.tmp 39) _ rfl V32.heap.size 5 i0 _ 1 1 Tryz.underlying22 hi0 hz0 hz1 hz2 rfl (by omega) (.slice A86 l90.length c87) l90.length (bys l90) rfl o85x V82.heap.size g80 1 1 (bys [u8 r.owner]) rfl u77 (bys_one _) (by have:=l90B.out;simp only [maxLen];omega) (by have:=l90B.out;omega) hb89.size ?_
     intro v91 V92 o93 hg94 _;have hb98 : Below V32.heap.size V32 V92:=Below.grown hb89 hg94 hb89.size (fun k hk => (o85x.lt k hk).1)
     have o93x : Owns V92 V32.heap.size 5 v91 (l90 ++ [u8 r.owner]):=by unfold Owns;rw [bys_append,List.length_append];exact o93
     obtain ⟨A95,c96,rfl,_,_,q97,_⟩:=Owns.shape o93x;have l99B:=Lib.hid (Cq9 (l':=[]) l90B.out (u8 r.owner));clear o93 o93x hg94 o85x u77 hb89;generalize hl : l90 ++ [u8 r.owner] = l99 at q97 l99B ⊢;have l99E:=Lib.hid hl;clear hl;go_wp2_with fail;refine ⟨fun _ => hb98,?_⟩
     refine R9 (i:=11) (by kernel_rfl) ?_
     refine K9 rfl ?_;try go_frame
     go_wp2_with fail;refine (Bq9 A95 c96 r.text l99 V92 q97 (by have:=l99B.out;omega) (by omega)).mono ?_
     rintro e V100 ⟨v102,rfl,o103,ha101⟩;replace o103:=ownsRow_mono o103 hb98.size;clear q97;have hb107 : Below V32.heap.size V32 V100:=Later.trans hb98 ha101;clear hb98 ha101;obtain ⟨A104,c105,rfl,_,_,q106,_⟩:=Owns.shape o103;have o103x : Owns V100 V32.heap.size 5 (.slice A104 (ptB l99 r.text.data.toList).length c105) (ptB l99 r.text.data.toList):=o103;clear o103;have l108B : Hid ((ptB l99 r.text.data.toList).length ≤ 109):=Lib.hid (by have:=l99B.out;have:=Ev9 l99 r.text.data.toList;omega)
     have l108E : Hid (ptB l99 r.text.data.toList = ptB l99 r.text.data.toList):=Lib.hid rfl;revert l108E
     generalize hl : ptB l99 r.text.data.toList = l108 at q106 o103x l108B ⊢;intro _;have l108E:=Lib.hid hl;clear hl;go_wp2_with fail;refine ⟨fun _ => hb107,?_⟩
     clear o103x;refine F8 [12] (by kernel_rfl) (LexW.cons rfl ?_)
     try go_frame
     go_wp2_with fail;refine ⟨fun _ => hb107,LexW.nil ?_⟩
     have S109:=S40.later hb107;clear hb107;go_wp2_with fail;refine (Dw9 A104 c105 l108 V100 q106 (by have:=l108B.out;omega)).mono ?_
     rintro e W8 ⟨rfl,rfl⟩;go_wp2_with fail;refine (I8 A104 c105 (crc l108) l108 V100 q106 (by have:=l108B.out;omega)).mono ?_
     rintro e W9 ⟨v9,rfl,o9,hb⟩;have O9:=ownsRow_mono o9 S109.out.1.size;replace S109:=S109.later hb;clear hb o9
     have HE := Lib.hid (show l108 ++ F9 (crc l108) = Q7 (X7 g p r) by
        have hh : l108 = ptB ((((F9 g ++ F9 p) ++ [u8 r.kind]) ++ F9 r.n) ++ [u8 r.owner]) r.text.data.toList:=by rw [← l108E.out,← l99E.out,← l90E.out,← l39E.out,← l25E.out,← l16E.out];simp
        unfold Q7 X7;rw [hh])
     go_wp2_with fail;go_ret
     exact ⟨v9,rfl,by rw [← HE.out];exact O9,S109.out.1⟩
   ·refine K9 rfl ?_
    try go_frame
    go_wp2_with fail;have u110:=Ec9 V8 r.kind;have ha112:=Later.alloc V8 (.cells #[.int .u8 (r.kind % 256)] 5);refine ⟨fun _ => Later.trans hb15 ha112,?_⟩
    generalize V8.alloc (.cells #[.int .u8 (r.kind % 256)] 5) = V111 at u110 ha112 ⊢;generalize (some (⟨V8.heap.size,0,none⟩ : Addr)) = g113 at u110 ⊢;replace q14 : Reads V111 V111.heap.size 1 A12 l16.length (bys l16):=Keeps.keeps (F:=fun w' => Reads w' w'.heap.size 1 A12 l16.length (bys l16)) ha112 q14
    have hb114 : Below W1.heap.size W1 V111:=Later.trans hb15 ha112;clear hb15 ha112;refine R9 (i:=4) (by kernel_rfl) ?_
    refine K9 rfl ?_;try go_frame
    go_wp2_with fail;refine (I8 A12 c13 p l16 V111 q14 (by have:=l16B.out;omega)).mono ?_
    rintro e V115 ⟨v117,rfl,o118,ha116⟩;replace o118:=ownsRow_mono o118 hb114.size;clear q14;replace u110 : Reads V115 V115.heap.size 1 g113 1 (bys [u8 r.kind]):=Keeps.keeps (F:=fun w' => Reads w' w'.heap.size 1 g113 1 (bys [u8 r.kind])) ha116 u110
    have hb122 : Below W1.heap.size W1 V115:=Later.trans hb114 ha116;clear hb114 ha116;obtain ⟨A119,c120,rfl,_,_,q121,_⟩:=Owns.shape o118;have o118x : Owns V115 W1.heap.size 5 (.slice A119 (l16 ++ F9 p).length c120) (l16 ++ F9 p):=o118;clear o118;have l123B : Hid ((l16 ++ F9 p).length = 4):=Lib.hid (by have:=l16B.out;simp [F9];omega)
    have l123E : Hid (l16 ++ F9 p = l16 ++ F9 p):=Lib.hid rfl;revert l123E
    generalize hl : l16 ++ F9 p = l123 at q121 o118x l123B ⊢;intro _;have l123E:=Lib.hid hl;clear hl;go_wp2_with fail;refine ⟨fun _ => hb122,?_⟩
    clear q121;refine R9 (i:=9) (by kernel_rfl) ?_
    refine K9 rfl ?_;try go_frame
    refine wpList_append_any _ rfl (.tmp 26) (.tmp 30) _ rfl W1.heap.size 5 i0 _ 1 1 Tryz.underlying22 hi0 hz0 hz1 hz2 rfl (by omega) (.slice A119 l123.length c120) l123.length (bys l123) rfl o118x V115.heap.size g113 1 1 (bys [u8 r.kind]) rfl u110 (bys_one _) (by have:=l123B.out;simp only [maxLen];omega) (by have:=l123B.out;omega) hb122.size ?_
    intro v124 V125 o126 hg127 _;have hb131 : Below W1.heap.size W1 V125:=Below.grown hb122 hg127 hb122.size (fun k hk => (o118x.lt k hk).1)
    have o126x : Owns V125 W1.heap.size 5 v124 (l123 ++ [u8 r.kind]):=by unfold Owns;rw [bys_append,List.length_append];exact o126
    obtain ⟨A128,c129,rfl,_,_,q130,_⟩:=Owns.shape o126x;have l132B:=Lib.hid (Cq9 (l':=[]) l123B.out (u8 r.kind));clear o126 o126x hg127 o118x u110 hb122;generalize hl : l123 ++ [u8 r.kind] = l132 at q130 l132B ⊢;have l132E:=Lib.hid hl;clear hl;go_wp2_with fail;refine ⟨fun _ => hb131,?_⟩
    refine F8 [10] (by kernel_rfl) (LexW.cons rfl ?_)
    try go_frame
    go_wp2_with fail;refine ⟨fun _ => hb131,LexW.nil ?_⟩
    have S133:=S.later hb131;clear hb131;go_wp2_with fail;refine Ad9 100 (fun w' => Below V125.heap.size V125 w') (by kernel_rfl) ?_
    have hb134 : Below V125.heap.size V125 V125.drew:=Later.drew V125;refine Y9 [0,1,2,4,5,6,9,10] (fuel:=5) (by kernel_rfl) hb134 ?_
    iterate 8 (refine LexR.cons rfl ?_ (fun w' hw => ?_) ?_;rotate_left;focus (have hS:=S133.later hw;obtain ⟨d0,d1,d2,d3⟩:=J9 hS.out.2.2.out;clear hS;go_simp;(try exact rfl));(try go_frame))
    refine LexR.nil ?_;generalize V125.drew = V135 at hb134 ⊢;have q136 : Reads V135 V135.heap.size 1 A128 l132.length (bys l132):=Keeps.keeps (F:=fun w' => Reads w' w'.heap.size 1 A128 l132.length (bys l132)) hb134 q130
    clear q130;refine As9 (i:=3) (j:=7) (by kernel_rfl) ?_ ?_
    ·refine K9 rfl ?_
     try go_frame
     go_wp2_with fail;refine (I8 A128 c129 r.n l132 V135 q136 (by have:=l132B.out;omega)).mono ?_
     rintro e V137 ⟨v139,rfl,o140,ha138⟩;replace o140:=ownsRow_mono o140 hb134.size;clear q136;have hb144 : Below V125.heap.size V125 V137:=Later.trans hb134 ha138;clear hb134 ha138;obtain ⟨A141,c142,rfl,_,_,q143,_⟩:=Owns.shape o140;have o140x : Owns V137 V125.heap.size 5 (.slice A141 (l132 ++ F9 r.n).length c142) (l132 ++ F9 r.n):=o140;clear o140;have l145B : Hid ((l132 ++ F9 r.n).length = 7):=Lib.hid (by have:=l132B.out;simp [F9];omega)
     have l145E : Hid (l132 ++ F9 r.n = l132 ++ F9 r.n):=Lib.hid rfl;revert l145E
     generalize hl : l132 ++ F9 r.n = l145 at q143 o140x l145B ⊢;intro _;have l145E:=Lib.hid hl;clear hl;go_wp2_with fail;refine ⟨fun _ => hb144,?_⟩
     clear q143;refine R9 (i:=7) (by kernel_rfl) ?_
     refine K9 rfl ?_;try go_frame
     go_wp2_with fail;have u146:=Ec9 V137 r.owner;have ha148:=Later.alloc V137 (.cells #[.int .u8 (r.owner % 256)] 5);refine ⟨fun _ => Later.trans hb144 ha148,?_⟩
     generalize V137.alloc (.cells #[.int .u8 (r.owner % 256)] 5) = V147 at u146 ha148 ⊢;generalize (some (⟨V137.heap.size,0,none⟩ : Addr)) = g149 at u146 ⊢;replace o140x : Owns V147 V125.heap.size 5 (.slice A141 l145.length c142) l145:=o140x.keep ha148;have hb150 : Below V125.heap.size V125 V147:=Later.trans hb144 ha148;clear hb144 ha148;refine R9 (i:=8) (by kernel_rfl) ?_
     refine K9 rfl ?_;try go_frame
     refine wpList_append_any _ rfl (.tmp 35) (.tmp 39) _ rfl V125.heap.size 5 i0 _ 1 1 Tryz.underlying22 hi0 hz0 hz1 hz2 rfl (by omega) (.slice A141 l145.length c142) l145.length (bys l145) rfl o140x V147.heap.size g149 1 1 (bys [u8 r.owner]) rfl u146 (bys_one _) (by have:=l145B.out;simp only [maxLen];omega) (by have:=l145B.out;omega) hb150.size ?_
     intro v151 V152 o153 hg154 _;have hb158 : Below V125.heap.size V125 V152:=Below.grown hb150 hg154 hb150.size (fun k hk => (o140x.lt k hk).1)
     have o153x : Owns V152 V125.heap.size 5 v151 (l145 ++ [u8 r.owner]):=by unfold Owns;rw [bys_append,List.length_append];exact o153
     obtain ⟨A155,c156,rfl,_,_,q157,_⟩:=Owns.shape o153x;have l159B:=Lib.hid (Cq9 (l':=[]) l145B.out (u8 r.owner));clear o153 o153x hg154 o140x u146 hb150;generalize hl : l145 ++ [u8 r.owner] = l159 at q157 l159B ⊢;have l159E:=Lib.hid hl;clear hl;go_wp2_with fail;refine ⟨fun _ => hb158,?_⟩
     refine R9 (i:=11) (by kernel_rfl) ?_
     refine K9 rfl ?_;try go_frame
     go_wp2_with fail;refine (Bq9 A155 c156 r.text l159 V152 q157 (by have:=l159B.out;omega) (by omega)).mono ?_
     rintro e V160 ⟨v162,rfl,o163,ha161⟩;replace o163:=ownsRow_mono o163 hb158.size;clear q157;have hb167 : Below V125.heap.size V125 V160:=Later.trans hb158 ha161;clear hb158 ha161;obtain ⟨A164,c165,rfl,_,_,q166,_⟩:=Owns.shape o163;have o163x : Owns V160 V125.heap.size 5 (.slice A164 (ptB l159 r.text.data.toList).length c165) (ptB l159 r.text.data.toList):=o163;clear o163;have l168B : Hid ((ptB l159 r.text.data.toList).length ≤ 109):=Lib.hid (by have:=l159B.out;have:=Ev9 l159 r.text.data.toList;omega)
     have l168E : Hid (ptB l159 r.text.data.toList = ptB l159 r.text.data.toList):=Lib.hid rfl;revert l168E
     generalize hl : ptB l159 r.text.data.toList = l168 at q166 o163x l168B ⊢;intro _;have l168E:=Lib.hid hl;clear hl;go_wp2_with fail;refine ⟨fun _ => hb167,?_⟩
     clear o163x;refine F8 [12] (by kernel_rfl) (LexW.cons rfl ?_)
     try go_frame
     go_wp2_with fail;refine ⟨fun _ => hb167,LexW.nil ?_⟩
     have S169:=S133.later hb167;clear hb167;go_wp2_with fail;refine (Dw9 A164 c165 l168 V160 q166 (by have:=l168B.out;omega)).mono ?_
     rintro e W8 ⟨rfl,rfl⟩;go_wp2_with fail;refine (I8 A164 c165 (crc l168) l168 V160 q166 (by have:=l168B.out;omega)).mono ?_
     rintro e W9 ⟨v9,rfl,o9,hb⟩;have O9:=ownsRow_mono o9 S169.out.1.size;replace S169:=S169.later hb;clear hb o9
     have HE := Lib.hid (show l168 ++ F9 (crc l168) = Q7 (X7 g p r) by
        have hh : l168 = ptB ((((F9 g ++ F9 p) ++ [u8 r.kind]) ++ F9 r.n) ++ [u8 r.owner]) r.text.data.toList:=by rw [← l168E.out,← l159E.out,← l145E.out,← l132E.out,← l123E.out,← l16E.out];simp
        unfold Q7 X7;rw [hh])
     go_wp2_with fail;go_ret
     exact ⟨v9,rfl,by rw [← HE.out];exact O9,S169.out.1⟩
    ·refine K9 rfl ?_
     try go_frame
     go_wp2_with fail;have u170:=Ec9 V135 r.owner;have ha172:=Later.alloc V135 (.cells #[.int .u8 (r.owner % 256)] 5);refine ⟨fun _ => Later.trans hb134 ha172,?_⟩
     generalize V135.alloc (.cells #[.int .u8 (r.owner % 256)] 5) = V171 at u170 ha172 ⊢;generalize (some (⟨V135.heap.size,0,none⟩ : Addr)) = g173 at u170 ⊢;replace q136 : Reads V171 V171.heap.size 1 A128 l132.length (bys l132):=Keeps.keeps (F:=fun w' => Reads w' w'.heap.size 1 A128 l132.length (bys l132)) ha172 q136
     have hb174 : Below V125.heap.size V125 V171:=Later.trans hb134 ha172;clear hb134 ha172;refine R9 (i:=3) (by kernel_rfl) ?_
     refine K9 rfl ?_;try go_frame
     go_wp2_with fail;refine (I8 A128 c129 r.n l132 V171 q136 (by have:=l132B.out;omega)).mono ?_
     rintro e V175 ⟨v177,rfl,o178,ha176⟩;replace o178:=ownsRow_mono o178 hb174.size;clear q136;replace u170 : Reads V175 V175.heap.size 1 g173 1 (bys [u8 r.owner]):=Keeps.keeps (F:=fun w' => Reads w' w'.heap.size 1 g173 1 (bys [u8 r.owner])) ha176 u170
     have hb182 : Below V125.heap.size V125 V175:=Later.trans hb174 ha176;clear hb174 ha176;obtain ⟨A179,c180,rfl,_,_,q181,_⟩:=Owns.shape o178;have o178x : Owns V175 V125.heap.size 5 (.slice A179 (l132 ++ F9 r.n).length c180) (l132 ++ F9 r.n):=o178;clear o178;have l183B : Hid ((l132 ++ F9 r.n).length = 7):=Lib.hid (by have:=l132B.out;simp [F9];omega)
     have l183E : Hid (l132 ++ F9 r.n = l132 ++ F9 r.n):=Lib.hid rfl;revert l183E
     generalize hl : l132 ++ F9 r.n = l183 at q181 o178x l183B ⊢;intro _;have l183E:=Lib.hid hl;clear hl;go_wp2_with fail;refine ⟨fun _ => hb182,?_⟩
     clear q181;refine R9 (i:=8) (by kernel_rfl) ?_
     refine K9 rfl ?_;try go_frame
     refine wpList_append_any _ rfl (.tmp 35) (.tmp 39) _ rfl V125.heap.size 5 i0 _ 1 1 Tryz.underlying22 hi0 hz0 hz1 hz2 rfl (by omega) (.slice A179 l183.length c180) l183.length (bys l183) rfl o178x V175.heap.size g173 1 1 (bys [u8 r.owner]) rfl u170 (bys_one _) (by have:=l183B.out;simp only [maxLen];omega) (by have:=l183B.out;omega) hb182.size ?_
     intro v184 V185 o186 hg187 _;have hb191 : Below V125.heap.size V125 V185:=Below.grown hb182 hg187 hb182.size (fun k hk => (o178x.lt k hk).1)
     have o186x : Owns V185 V125.heap.size 5 v184 (l183 ++ [u8 r.owner]):=by unfold Owns;rw [bys_append,List.length_append];exact o186
     obtain ⟨A188,c189,rfl,_,_,q190,_⟩:=Owns.shape o186x;have l192B:=Lib.hid (Cq9 (l':=[]) l183B.out (u8 r.owner));clear o186 o186x hg187 o178x u170 hb182;generalize hl : l183 ++ [u8 r.owner] = l192 at q190 l192B ⊢;have l192E:=Lib.hid hl;clear hl;go_wp2_with fail;refine ⟨fun _ => hb191,?_⟩
     refine R9 (i:=11) (by kernel_rfl) ?_
     refine K9 rfl ?_;try go_frame
     go_wp2_with fail;refine (Bq9 A188 c189 r.text l192 V185 q190 (by have:=l192B.out;omega) (by omega)).mono ?_
     rintro e V193 ⟨v195,rfl,o196,ha194⟩;replace o196:=ownsRow_mono o196 hb191.size;clear q190;have hb200 : Below V125.heap.size V125 V193:=Later.trans hb191 ha194;clear hb191 ha194;obtain ⟨A197,c198,rfl,_,_,q199,_⟩:=Owns.shape o196;have o196x : Owns V193 V125.heap.size 5 (.slice A197 (ptB l192 r.text.data.toList).length c198) (ptB l192 r.text.data.toList):=o196;clear o196;have l201B : Hid ((ptB l192 r.text.data.toList).length ≤ 109):=Lib.hid (by have:=l192B.out;have:=Ev9 l192 r.text.data.toList;omega)
     have l201E : Hid (ptB l192 r.text.data.toList = ptB l192 r.text.data.toList):=Lib.hid rfl;revert l201E
     generalize hl : ptB l192 r.text.data.toList = l201 at q199 o196x l201B ⊢;intro _;have l201E:=Lib.hid hl;clear hl;go_wp2_with fail;refine ⟨fun _ => hb200,?_⟩
     clear o196x;refine F8 [12] (by kernel_rfl) (LexW.cons rfl ?_)
     try go_frame
     go_wp2_with fail;refine ⟨fun _ => hb200,LexW.nil ?_⟩
     have S202:=S133.later hb200;clear hb200;go_wp2_with fail;refine (Dw9 A197 c198 l201 V193 q199 (by have:=l201B.out;omega)).mono ?_
     rintro e W8 ⟨rfl,rfl⟩;go_wp2_with fail;refine (I8 A197 c198 (crc l201) l201 V193 q199 (by have:=l201B.out;omega)).mono ?_
     rintro e W9 ⟨v9,rfl,o9,hb⟩;have O9:=ownsRow_mono o9 S202.out.1.size;replace S202:=S202.later hb;clear hb o9
     have HE := Lib.hid (show l201 ++ F9 (crc l201) = Q7 (X7 g p r) by
        have hh : l201 = ptB ((((F9 g ++ F9 p) ++ [u8 r.kind]) ++ F9 r.n) ++ [u8 r.owner]) r.text.data.toList:=by rw [← l201E.out,← l192E.out,← l183E.out,← l132E.out,← l123E.out,← l16E.out];simp
        unfold Q7 X7;rw [hh])
     go_wp2_with fail;go_ret
     exact ⟨v9,rfl,by rw [← HE.out];exact O9,S202.out.1⟩
  ·refine K9 rfl ?_
   try go_frame
   go_wp2_with fail;have u203:=Ec9 V3 r.kind;have ha205:=Later.alloc V3 (.cells #[.int .u8 (r.kind % 256)] 5);refine ⟨fun _ => Later.trans hb7 ha205,?_⟩
   generalize V3.alloc (.cells #[.int .u8 (r.kind % 256)] 5) = V204 at u203 ha205 ⊢;generalize (some (⟨V3.heap.size,0,none⟩ : Addr)) = g206 at u203 ⊢;replace q6 : Reads V204 V204.heap.size 1 g5 ([] : List UInt8).length (bys ([] : List UInt8)):=Keeps.keeps (F:=fun w' => Reads w' w'.heap.size 1 g5 ([] : List UInt8).length (bys ([] : List UInt8))) ha205 q6
   have hb207 : Below W1.heap.size W1 V204:=Later.trans hb7 ha205;clear hb7 ha205;refine R9 (i:=2) (by kernel_rfl) ?_
   refine K9 rfl ?_;try go_frame
   go_wp2_with fail;refine (I8 g5 0 g ([] : List UInt8) V204 q6 (by simp)).mono ?_
   rintro e V208 ⟨v210,rfl,o211,ha209⟩;replace o211:=ownsRow_mono o211 hb207.size;clear q6;replace u203 : Reads V208 V208.heap.size 1 g206 1 (bys [u8 r.kind]):=Keeps.keeps (F:=fun w' => Reads w' w'.heap.size 1 g206 1 (bys [u8 r.kind])) ha209 u203
   have hb215 : Below W1.heap.size W1 V208:=Later.trans hb207 ha209;clear hb207 ha209;obtain ⟨A212,c213,rfl,_,_,q214,_⟩:=Owns.shape o211;have o211x : Owns V208 W1.heap.size 5 (.slice A212 ([] ++ F9 g).length c213) ([] ++ F9 g):=o211;clear o211;have l216B : Hid (([] ++ F9 g).length = 2):=Lib.hid (by simp [F9])
   have l216E : Hid ([] ++ F9 g = [] ++ F9 g):=Lib.hid rfl;revert l216E
   generalize hl : [] ++ F9 g = l216 at q214 o211x l216B ⊢;intro _;have l216E:=Lib.hid hl;clear hl;go_wp2_with fail;refine ⟨fun _ => hb215,?_⟩
   clear o211x;refine R9 (i:=4) (by kernel_rfl) ?_
   refine K9 rfl ?_;try go_frame
   go_wp2_with fail;refine (I8 A212 c213 p l216 V208 q214 (by have:=l216B.out;omega)).mono ?_
   rintro e V217 ⟨v219,rfl,o220,ha218⟩;replace o220:=ownsRow_mono o220 hb215.size;clear q214;replace u203 : Reads V217 V217.heap.size 1 g206 1 (bys [u8 r.kind]):=Keeps.keeps (F:=fun w' => Reads w' w'.heap.size 1 g206 1 (bys [u8 r.kind])) ha218 u203
   have hb224 : Below W1.heap.size W1 V217:=Later.trans hb215 ha218;clear hb215 ha218;obtain ⟨A221,c222,rfl,_,_,q223,_⟩:=Owns.shape o220;have o220x : Owns V217 W1.heap.size 5 (.slice A221 (l216 ++ F9 p).length c222) (l216 ++ F9 p):=o220;clear o220;have l225B : Hid ((l216 ++ F9 p).length = 4):=Lib.hid (by have:=l216B.out;simp [F9];omega)
   have l225E : Hid (l216 ++ F9 p = l216 ++ F9 p):=Lib.hid rfl;revert l225E
   generalize hl : l216 ++ F9 p = l225 at q223 o220x l225B ⊢;intro _;have l225E:=Lib.hid hl;clear hl;go_wp2_with fail;refine ⟨fun _ => hb224,?_⟩
   clear q223;refine R9 (i:=9) (by kernel_rfl) ?_
   refine K9 rfl ?_;try go_frame
   refine wpList_append_any _ rfl (.tmp 26) (.tmp 30) _ rfl W1.heap.size 5 i0 _ 1 1 Tryz.underlying22 hi0 hz0 hz1 hz2 rfl (by omega) (.slice A221 l225.length c222) l225.length (bys l225) rfl o220x V217.heap.size g206 1 1 (bys [u8 r.kind]) rfl u203 (bys_one _) (by have:=l225B.out;simp only [maxLen];omega) (by have:=l225B.out;omega) hb224.size ?_
   intro v226 V227 o228 hg229 _;have hb233 : Below W1.heap.size W1 V227:=Below.grown hb224 hg229 hb224.size (fun k hk => (o220x.lt k hk).1)
   have o228x : Owns V227 W1.heap.size 5 v226 (l225 ++ [u8 r.kind]):=by unfold Owns;rw [bys_append,List.length_append];exact o228
   obtain ⟨A230,c231,rfl,_,_,q232,_⟩:=Owns.shape o228x;have l234B:=Lib.hid (Cq9 (l':=[]) l225B.out (u8 r.kind));clear o228 o228x hg229 o220x u203 hb224;generalize hl : l225 ++ [u8 r.kind] = l234 at q232 l234B ⊢;have l234E:=Lib.hid hl;clear hl;go_wp2_with fail;refine ⟨fun _ => hb233,?_⟩
   refine F8 [10] (by kernel_rfl) (LexW.cons rfl ?_)
   try go_frame
   go_wp2_with fail;refine ⟨fun _ => hb233,LexW.nil ?_⟩
   have S235:=S.later hb233;clear hb233;go_wp2_with fail;refine Ad9 100 (fun w' => Below V227.heap.size V227 w') (by kernel_rfl) ?_
   have hb236 : Below V227.heap.size V227 V227.drew:=Later.drew V227;refine Y9 [0,1,2,4,5,6,9,10] (fuel:=5) (by kernel_rfl) hb236 ?_
   iterate 8 (refine LexR.cons rfl ?_ (fun w' hw => ?_) ?_;rotate_left;focus (have hS:=S235.later hw;obtain ⟨d0,d1,d2,d3⟩:=J9 hS.out.2.2.out;clear hS;go_simp;(try exact rfl));(try go_frame))
   refine LexR.nil ?_;generalize V227.drew = V237 at hb236 ⊢;have q238 : Reads V237 V237.heap.size 1 A230 l234.length (bys l234):=Keeps.keeps (F:=fun w' => Reads w' w'.heap.size 1 A230 l234.length (bys l234)) hb236 q232
   clear q232;refine As9 (i:=3) (j:=7) (by kernel_rfl) ?_ ?_
   ·refine K9 rfl ?_
    try go_frame
    go_wp2_with fail;refine (I8 A230 c231 r.n l234 V237 q238 (by have:=l234B.out;omega)).mono ?_
    rintro e V239 ⟨v241,rfl,o242,ha240⟩;replace o242:=ownsRow_mono o242 hb236.size;clear q238;have hb246 : Below V227.heap.size V227 V239:=Later.trans hb236 ha240;clear hb236 ha240;obtain ⟨A243,c244,rfl,_,_,q245,_⟩:=Owns.shape o242;have o242x : Owns V239 V227.heap.size 5 (.slice A243 (l234 ++ F9 r.n).length c244) (l234 ++ F9 r.n):=o242;clear o242;have l247B : Hid ((l234 ++ F9 r.n).length = 7):=Lib.hid (by have:=l234B.out;simp [F9];omega)
    have l247E : Hid (l234 ++ F9 r.n = l234 ++ F9 r.n):=Lib.hid rfl;revert l247E
    generalize hl : l234 ++ F9 r.n = l247 at q245 o242x l247B ⊢;intro _;have l247E:=Lib.hid hl;clear hl;go_wp2_with fail;refine ⟨fun _ => hb246,?_⟩
    clear q245;refine R9 (i:=7) (by kernel_rfl) ?_
    refine K9 rfl ?_;try go_frame
    go_wp2_with fail;have u248:=Ec9 V239 r.owner;have ha250:=Later.alloc V239 (.cells #[.int .u8 (r.owner % 256)] 5);refine ⟨fun _ => Later.trans hb246 ha250,?_⟩
    generalize V239.alloc (.cells #[.int .u8 (r.owner % 256)] 5) = V249 at u248 ha250 ⊢;generalize (some (⟨V239.heap.size,0,none⟩ : Addr)) = g251 at u248 ⊢;replace o242x : Owns V249 V227.heap.size 5 (.slice A243 l247.length c244) l247:=o242x.keep ha250;have hb252 : Below V227.heap.size V227 V249:=Later.trans hb246 ha250;clear hb246 ha250;refine R9 (i:=8) (by kernel_rfl) ?_
    refine K9 rfl ?_;try go_frame
    refine wpList_append_any _ rfl (.tmp 35) (.tmp 39) _ rfl V227.heap.size 5 i0 _ 1 1 Tryz.underlying22 hi0 hz0 hz1 hz2 rfl (by omega) (.slice A243 l247.length c244) l247.length (bys l247) rfl o242x V249.heap.size g251 1 1 (bys [u8 r.owner]) rfl u248 (bys_one _) (by have:=l247B.out;simp only [maxLen];omega) (by have:=l247B.out;omega) hb252.size ?_
    intro v253 V254 o255 hg256 _;have hb260 : Below V227.heap.size V227 V254:=Below.grown hb252 hg256 hb252.size (fun k hk => (o242x.lt k hk).1)
    have o255x : Owns V254 V227.heap.size 5 v253 (l247 ++ [u8 r.owner]):=by unfold Owns;rw [bys_append,List.length_append];exact o255
    obtain ⟨A257,c258,rfl,_,_,q259,_⟩:=Owns.shape o255x;have l261B:=Lib.hid (Cq9 (l':=[]) l247B.out (u8 r.owner));clear o255 o255x hg256 o242x u248 hb252;generalize hl : l247 ++ [u8 r.owner] = l261 at q259 l261B ⊢;have l261E:=Lib.hid hl;clear hl;go_wp2_with fail;refine ⟨fun _ => hb260,?_⟩
    refine R9 (i:=11) (by kernel_rfl) ?_
    refine K9 rfl ?_;try go_frame
    go_wp2_with fail;refine (Bq9 A257 c258 r.text l261 V254 q259 (by have:=l261B.out;omega) (by omega)).mono ?_
    rintro e V262 ⟨v264,rfl,o265,ha263⟩;replace o265:=ownsRow_mono o265 hb260.size;clear q259;have hb269 : Below V227.heap.size V227 V262:=Later.trans hb260 ha263;clear hb260 ha263;obtain ⟨A266,c267,rfl,_,_,q268,_⟩:=Owns.shape o265;have o265x : Owns V262 V227.heap.size 5 (.slice A266 (ptB l261 r.text.data.toList).length c267) (ptB l261 r.text.data.toList):=o265;clear o265;have l270B : Hid ((ptB l261 r.text.data.toList).length ≤ 109):=Lib.hid (by have:=l261B.out;have:=Ev9 l261 r.text.data.toList;omega)
    have l270E : Hid (ptB l261 r.text.data.toList = ptB l261 r.text.data.toList):=Lib.hid rfl;revert l270E
    generalize hl : ptB l261 r.text.data.toList = l270 at q268 o265x l270B ⊢;intro _;have l270E:=Lib.hid hl;clear hl;go_wp2_with fail;refine ⟨fun _ => hb269,?_⟩
    clear o265x;refine F8 [12] (by kernel_rfl) (LexW.cons rfl ?_)
    try go_frame
    go_wp2_with fail;refine ⟨fun _ => hb269,LexW.nil ?_⟩
    have S271:=S235.later hb269;clear hb269;go_wp2_with fail;refine (Dw9 A266 c267 l270 V262 q268 (by have:=l270B.out;omega)).mono ?_
    rintro e W8 ⟨rfl,rfl⟩;go_wp2_with fail;refine (I8 A266 c267 (crc l270) l270 V262 q268 (by have:=l270B.out;omega)).mono ?_
    rintro e W9 ⟨v9,rfl,o9,hb⟩;have O9:=ownsRow_mono o9 S271.out.1.size;replace S271:=S271.later hb;clear hb o9
    have HE := Lib.hid (show l270 ++ F9 (crc l270) = Q7 (X7 g p r) by
       have hh : l270 = ptB ((((F9 g ++ F9 p) ++ [u8 r.kind]) ++ F9 r.n) ++ [u8 r.owner]) r.text.data.toList:=by rw [← l270E.out,← l261E.out,← l247E.out,← l234E.out,← l225E.out,← l216E.out];simp
       unfold Q7 X7;rw [hh])
    go_wp2_with fail;go_ret
    exact ⟨v9,rfl,by rw [← HE.out];exact O9,S271.out.1⟩
   ·refine K9 rfl ?_
    try go_frame
    go_wp2_with fail;have u272:=Ec9 V237 r.owner;have ha274:=Later.alloc V237 (.cells #[.int .u8 (r.owner % 256)] 5);refine ⟨fun _ => Later.trans hb236 ha274,?_⟩
    generalize V237.alloc (.cells #[.int .u8 (r.owner % 256)] 5) = V273 at u272 ha274 ⊢;generalize (some (⟨V237.heap.size,0,none⟩ : Addr)) = g275 at u272 ⊢;replace q238 : Reads V273 V273.heap.size 1 A230 l234.length (bys l234):=Keeps.keeps (F:=fun w' => Reads w' w'.heap.size 1 A230 l234.length (bys l234)) ha274 q238
    have hb276 : Below V227.heap.size V227 V273:=Later.trans hb236 ha274;clear hb236 ha274;refine R9 (i:=3) (by kernel_rfl) ?_
    refine K9 rfl ?_;try go_frame
    go_wp2_with fail;refine (I8 A230 c231 r.n l234 V273 q238 (by have:=l234B.out;omega)).mono ?_
    rintro e V277 ⟨v279,rfl,o280,ha278⟩;replace o280:=ownsRow_mono o280 hb276.size;clear q238;replace u272 : Reads V277 V277.heap.size 1 g275 1 (bys [u8 r.owner]):=Keeps.keeps (F:=fun w' => Reads w' w'.heap.size 1 g275 1 (bys [u8 r.owner])) ha278 u272
    have hb284 : Below V227.heap.size V227 V277:=Later.trans hb276 ha278;clear hb276 ha278;obtain ⟨A281,c282,rfl,_,_,q283,_⟩:=Owns.shape o280;have o280x : Owns V277 V227.heap.size 5 (.slice A281 (l234 ++ F9 r.n).length c282) (l234 ++ F9 r.n):=o280;clear o280;have l285B : Hid ((l234 ++ F9 r.n).length = 7):=Lib.hid (by have:=l234B.out;simp [F9];omega)
    have l285E : Hid (l234 ++ F9 r.n = l234 ++ F9 r.n):=Lib.hid rfl;revert l285E
    generalize hl : l234 ++ F9 r.n = l285 at q283 o280x l285B ⊢;intro _;have l285E:=Lib.hid hl;clear hl;go_wp2_with fail;refine ⟨fun _ => hb284,?_⟩
    clear q283;refine R9 (i:=8) (by kernel_rfl) ?_
    refine K9 rfl ?_;try go_frame
    refine wpList_append_any _ rfl (.tmp 35) (.tmp 39) _ rfl V227.heap.size 5 i0 _ 1 1 Tryz.underlying22 hi0 hz0 hz1 hz2 rfl (by omega) (.slice A281 l285.length c282) l285.length (bys l285) rfl o280x V277.heap.size g275 1 1 (bys [u8 r.owner]) rfl u272 (bys_one _) (by have:=l285B.out;simp only [maxLen];omega) (by have:=l285B.out;omega) hb284.size ?_
    intro v286 V287 o288 hg289 _;have hb293 : Below V227.heap.size V227 V287:=Below.grown hb284 hg289 hb284.size (fun k hk => (o280x.lt k hk).1)
    have o288x : Owns V287 V227.heap.size 5 v286 (l285 ++ [u8 r.owner]):=by unfold Owns;rw [bys_append,List.length_append];exact o288
    obtain ⟨A290,c291,rfl,_,_,q292,_⟩:=Owns.shape o288x;have l294B:=Lib.hid (Cq9 (l':=[]) l285B.out (u8 r.owner));clear o288 o288x hg289 o280x u272 hb284;generalize hl : l285 ++ [u8 r.owner] = l294 at q292 l294B ⊢;have l294E:=Lib.hid hl;clear hl;go_wp2_with fail;refine ⟨fun _ => hb293,?_⟩
    refine R9 (i:=11) (by kernel_rfl) ?_
    refine K9 rfl ?_;try go_frame
    go_wp2_with fail;refine (Bq9 A290 c291 r.text l294 V287 q292 (by have:=l294B.out;omega) (by omega)).mono ?_
    rintro e V295 ⟨v297,rfl,o298,ha296⟩;replace o298:=ownsRow_mono o298 hb293.size;clear q292;have hb302 : Below V227.heap.size V227 V295:=Later.trans hb293 ha296;clear hb293 ha296;obtain ⟨A299,c300,rfl,_,_,q301,_⟩:=Owns.shape o298;have o298x : Owns V295 V227.heap.size 5 (.slice A299 (ptB l294 r.text.data.toList).length c300) (ptB l294 r.text.data.toList):=o298;clear o298;have l303B : Hid ((ptB l294 r.text.data.toList).length ≤ 109):=Lib.hid (by have:=l294B.out;have:=Ev9 l294 r.text.data.toList;omega)
    have l303E : Hid (ptB l294 r.text.data.toList = ptB l294 r.text.data.toList):=Lib.hid rfl;revert l303E
    generalize hl : ptB l294 r.text.data.toList = l303 at q301 o298x l303B ⊢;intro _;have l303E:=Lib.hid hl;clear hl;go_wp2_with fail;refine ⟨fun _ => hb302,?_⟩
    clear o298x;refine F8 [12] (by kernel_rfl) (LexW.cons rfl ?_)
    try go_frame
    go_wp2_with fail;refine ⟨fun _ => hb302,LexW.nil ?_⟩
    have S304:=S235.later hb302;clear hb302;go_wp2_with fail;refine (Dw9 A299 c300 l303 V295 q301 (by have:=l303B.out;omega)).mono ?_
    rintro e W8 ⟨rfl,rfl⟩;go_wp2_with fail;refine (I8 A299 c300 (crc l303) l303 V295 q301 (by have:=l303B.out;omega)).mono ?_
    rintro e W9 ⟨v9,rfl,o9,hb⟩;have O9:=ownsRow_mono o9 S304.out.1.size;replace S304:=S304.later hb;clear hb o9
    have HE := Lib.hid (show l303 ++ F9 (crc l303) = Q7 (X7 g p r) by
       have hh : l303 = ptB ((((F9 g ++ F9 p) ++ [u8 r.kind]) ++ F9 r.n) ++ [u8 r.owner]) r.text.data.toList:=by rw [← l303E.out,← l294E.out,← l285E.out,← l234E.out,← l225E.out,← l216E.out];simp
       unfold Q7 X7;rw [hh])
    go_wp2_with fail;go_ret
    exact ⟨v9,rfl,by rw [← HE.out];exact O9,S304.out.1⟩
 ·refine K9 rfl ?_
  try go_frame
  go_wp2_with fail;have u305:=Ec9 V2 r.kind;have ha307:=Later.alloc V2 (.cells #[.int .u8 (r.kind % 256)] 5);refine ⟨fun _ => Later.trans hb1 ha307,?_⟩
  generalize V2.alloc (.cells #[.int .u8 (r.kind % 256)] 5) = V306 at u305 ha307 ⊢;generalize (some (⟨V2.heap.size,0,none⟩ : Addr)) = g308 at u305 ⊢;have hb309 : Below W1.heap.size W1 V306:=Later.trans hb1 ha307;clear hb1 ha307;refine R9 (i:=0) (by kernel_rfl) ?_
  refine K9 rfl ?_;try go_frame
  go_wp2_with fail;have ha311:=Later.alloc V306 (.cells #[] 5);refine ⟨fun _ => Later.trans hb309 ha311,?_⟩
  generalize V306.alloc (.cells #[] 5) = V310 at ha311 ⊢;generalize (some (⟨V306.heap.size,0,none⟩ : Addr)) = g312;replace u305 : Reads V310 V310.heap.size 1 g308 1 (bys [u8 r.kind]):=Keeps.keeps (F:=fun w' => Reads w' w'.heap.size 1 g308 1 (bys [u8 r.kind])) ha311 u305
  have hb314 : Below W1.heap.size W1 V310:=Later.trans hb309 ha311;clear hb309 ha311;have q313 : Reads V310 V310.heap.size 1 g312 ([] : List UInt8).length (bys []):=⟨rfl,fun h => absurd h (by decide)⟩
  refine R9 (i:=2) (by kernel_rfl) ?_
  refine K9 rfl ?_;try go_frame
  go_wp2_with fail;refine (I8 g312 0 g ([] : List UInt8) V310 q313 (by simp)).mono ?_
  rintro e V315 ⟨v317,rfl,o318,ha316⟩;replace o318:=ownsRow_mono o318 hb314.size;clear q313;replace u305 : Reads V315 V315.heap.size 1 g308 1 (bys [u8 r.kind]):=Keeps.keeps (F:=fun w' => Reads w' w'.heap.size 1 g308 1 (bys [u8 r.kind])) ha316 u305
  have hb322 : Below W1.heap.size W1 V315:=Later.trans hb314 ha316;clear hb314 ha316;obtain ⟨A319,c320,rfl,_,_,q321,_⟩:=Owns.shape o318;have o318x : Owns V315 W1.heap.size 5 (.slice A319 ([] ++ F9 g).length c320) ([] ++ F9 g):=o318;clear o318;have l323B : Hid (([] ++ F9 g).length = 2):=Lib.hid (by simp [F9])
  have l323E : Hid ([] ++ F9 g = [] ++ F9 g):=Lib.hid rfl;revert l323E
  generalize hl : [] ++ F9 g = l323 at q321 o318x l323B ⊢;intro _;have l323E:=Lib.hid hl;clear hl;go_wp2_with fail;refine ⟨fun _ => hb322,?_⟩
  clear o318x;refine R9 (i:=4) (by kernel_rfl) ?_
  refine K9 rfl ?_;try go_frame
  go_wp2_with fail;refine (I8 A319 c320 p l323 V315 q321 (by have:=l323B.out;omega)).mono ?_
  rintro e V324 ⟨v326,rfl,o327,ha325⟩;replace o327:=ownsRow_mono o327 hb322.size;clear q321;replace u305 : Reads V324 V324.heap.size 1 g308 1 (bys [u8 r.kind]):=Keeps.keeps (F:=fun w' => Reads w' w'.heap.size 1 g308 1 (bys [u8 r.kind])) ha325 u305
  have hb331 : Below W1.heap.size W1 V324:=Later.trans hb322 ha325;clear hb322 ha325;obtain ⟨A328,c329,rfl,_,_,q330,_⟩:=Owns.shape o327;have o327x : Owns V324 W1.heap.size 5 (.slice A328 (l323 ++ F9 p).length c329) (l323 ++ F9 p):=o327;clear o327;have l332B : Hid ((l323 ++ F9 p).length = 4):=Lib.hid (by have:=l323B.out;simp [F9];omega)
  have l332E : Hid (l323 ++ F9 p = l323 ++ F9 p):=Lib.hid rfl;revert l332E
  generalize hl : l323 ++ F9 p = l332 at q330 o327x l332B ⊢;intro _;have l332E:=Lib.hid hl;clear hl;go_wp2_with fail;refine ⟨fun _ => hb331,?_⟩
  clear q330;refine R9 (i:=9) (by kernel_rfl) ?_
  refine K9 rfl ?_;try go_frame
  refine wpList_append_any _ rfl (.tmp 26) (.tmp 30) _ rfl W1.heap.size 5 i0 _ 1 1 Tryz.underlying22 hi0 hz0 hz1 hz2 rfl (by omega) (.slice A328 l332.length c329) l332.length (bys l332) rfl o327x V324.heap.size g308 1 1 (bys [u8 r.kind]) rfl u305 (bys_one _) (by have:=l332B.out;simp only [maxLen];omega) (by have:=l332B.out;omega) hb331.size ?_
  intro v333 V334 o335 hg336 _;have hb340 : Below W1.heap.size W1 V334:=Below.grown hb331 hg336 hb331.size (fun k hk => (o327x.lt k hk).1)
  have o335x : Owns V334 W1.heap.size 5 v333 (l332 ++ [u8 r.kind]):=by unfold Owns;rw [bys_append,List.length_append];exact o335
  obtain ⟨A337,c338,rfl,_,_,q339,_⟩:=Owns.shape o335x;have l341B:=Lib.hid (Cq9 (l':=[]) l332B.out (u8 r.kind));clear o335 o335x hg336 o327x u305 hb331;generalize hl : l332 ++ [u8 r.kind] = l341 at q339 l341B ⊢;have l341E:=Lib.hid hl;clear hl;go_wp2_with fail;refine ⟨fun _ => hb340,?_⟩
  refine F8 [10] (by kernel_rfl) (LexW.cons rfl ?_)
  try go_frame
  go_wp2_with fail;refine ⟨fun _ => hb340,LexW.nil ?_⟩
  have S342:=S.later hb340;clear hb340;go_wp2_with fail;refine Ad9 100 (fun w' => Below V334.heap.size V334 w') (by kernel_rfl) ?_
  have hb343 : Below V334.heap.size V334 V334.drew:=Later.drew V334;refine Y9 [0,1,2,4,5,6,9,10] (fuel:=5) (by kernel_rfl) hb343 ?_
  iterate 8 (refine LexR.cons rfl ?_ (fun w' hw => ?_) ?_;rotate_left;focus (have hS:=S342.later hw;obtain ⟨d0,d1,d2,d3⟩:=J9 hS.out.2.2.out;clear hS;go_simp;(try exact rfl));(try go_frame))
  refine LexR.nil ?_;generalize V334.drew = V344 at hb343 ⊢;have q345 : Reads V344 V344.heap.size 1 A337 l341.length (bys l341):=Keeps.keeps (F:=fun w' => Reads w' w'.heap.size 1 A337 l341.length (bys l341)) hb343 q339
  clear q339;refine As9 (i:=3) (j:=7) (by kernel_rfl) ?_ ?_
  ·refine K9 rfl ?_
   try go_frame
   go_wp2_with fail;refine (I8 A337 c338 r.n l341 V344 q345 (by have:=l341B.out;omega)).mono ?_
   rintro e V346 ⟨v348,rfl,o349,ha347⟩;replace o349:=ownsRow_mono o349 hb343.size;clear q345;have hb353 : Below V334.heap.size V334 V346:=Later.trans hb343 ha347;clear hb343 ha347;obtain ⟨A350,c351,rfl,_,_,q352,_⟩:=Owns.shape o349;have o349x : Owns V346 V334.heap.size 5 (.slice A350 (l341 ++ F9 r.n).length c351) (l341 ++ F9 r.n):=o349;clear o349;have l354B : Hid ((l341 ++ F9 r.n).length = 7):=Lib.hid (by have:=l341B.out;simp [F9];omega)
   have l354E : Hid (l341 ++ F9 r.n = l341 ++ F9 r.n):=Lib.hid rfl;revert l354E
   generalize hl : l341 ++ F9 r.n = l354 at q352 o349x l354B ⊢;intro _;have l354E:=Lib.hid hl;clear hl;go_wp2_with fail;refine ⟨fun _ => hb353,?_⟩
   clear q352;refine R9 (i:=7) (by kernel_rfl) ?_
   refine K9 rfl ?_;try go_frame
   go_wp2_with fail;have u355:=Ec9 V346 r.owner;have ha357:=Later.alloc V346 (.cells #[.int .u8 (r.owner % 256)] 5);refine ⟨fun _ => Later.trans hb353 ha357,?_⟩
   generalize V346.alloc (.cells #[.int .u8 (r.owner % 256)] 5) = V356 at u355 ha357 ⊢;generalize (some (⟨V346.heap.size,0,none⟩ : Addr)) = g358 at u355 ⊢;replace o349x : Owns V356 V334.heap.size 5 (.slice A350 l354.length c351) l354:=o349x.keep ha357;have hb359 : Below V334.heap.size V334 V356:=Later.trans hb353 ha357;clear hb353 ha357;refine R9 (i:=8) (by kernel_rfl) ?_
   refine K9 rfl ?_;try go_frame
   refine wpList_append_any _ rfl (.tmp 35) (.tmp 39) _ rfl V334.heap.size 5 i0 _ 1 1 Tryz.underlying22 hi0 hz0 hz1 hz2 rfl (by omega) (.slice A350 l354.length c351) l354.length (bys l354) rfl o349x V356.heap.size g358 1 1 (bys [u8 r.owner]) rfl u355 (bys_one _) (by have:=l354B.out;simp only [maxLen];omega) (by have:=l354B.out;omega) hb359.size ?_
   intro v360 V361 o362 hg363 _;have hb367 : Below V334.heap.size V334 V361:=Below.grown hb359 hg363 hb359.size (fun k hk => (o349x.lt k hk).1)
   have o362x : Owns V361 V334.heap.size 5 v360 (l354 ++ [u8 r.owner]):=by unfold Owns;rw [bys_append,List.length_append];exact o362
   obtain ⟨A364,c365,rfl,_,_,q366,_⟩:=Owns.shape o362x;have l368B:=Lib.hid (Cq9 (l':=[]) l354B.out (u8 r.owner));clear o362 o362x hg363 o349x u355 hb359;generalize hl : l354 ++ [u8 r.owner] = l368 at q366 l368B ⊢;have l368E:=Lib.hid hl;clear hl;go_wp2_with fail;refine ⟨fun _ => hb367,?_⟩
   refine R9 (i:=11) (by kernel_rfl) ?_
   refine K9 rfl ?_;try go_frame
   go_wp2_with fail;refine (Bq9 A364 c365 r.text l368 V361 q366 (by have:=l368B.out;omega) (by omega)).mono ?_
   rintro e V369 ⟨v371,rfl,o372,ha370⟩;replace o372:=ownsRow_mono o372 hb367.size;clear q366;have hb376 : Below V334.heap.size V334 V369:=Later.trans hb367 ha370;clear hb367 ha370;obtain ⟨A373,c374,rfl,_,_,q375,_⟩:=Owns.shape o372;have o372x : Owns V369 V334.heap.size 5 (.slice A373 (ptB l368 r.text.data.toList).length c374) (ptB l368 r.text.data.toList):=o372;clear o372;have l377B : Hid ((ptB l368 r.text.data.toList).length ≤ 109):=Lib.hid (by have:=l368B.out;have:=Ev9 l368 r.text.data.toList;omega)
   have l377E : Hid (ptB l368 r.text.data.toList = ptB l368 r.text.data.toList):=Lib.hid rfl;revert l377E
   generalize hl : ptB l368 r.text.data.toList = l377 at q375 o372x l377B ⊢;intro _;have l377E:=Lib.hid hl;clear hl;go_wp2_with fail;refine ⟨fun _ => hb376,?_⟩
   clear o372x;refine F8 [12] (by kernel_rfl) (LexW.cons rfl ?_)
   try go_frame
   go_wp2_with fail;refine ⟨fun _ => hb376,LexW.nil ?_⟩
   have S378:=S342.later hb376;clear hb376;go_wp2_with fail;refine (Dw9 A373 c374 l377 V369 q375 (by have:=l377B.out;omega)).mono ?_
   rintro e W8 ⟨rfl,rfl⟩;go_wp2_with fail;refine (I8 A373 c374 (crc l377) l377 V369 q375 (by have:=l377B.out;omega)).mono ?_
   rintro e W9 ⟨v9,rfl,o9,hb⟩;have O9:=ownsRow_mono o9 S378.out.1.size;replace S378:=S378.later hb;clear hb o9
   have HE := Lib.hid (show l377 ++ F9 (crc l377) = Q7 (X7 g p r) by
      have hh : l377 = ptB ((((F9 g ++ F9 p) ++ [u8 r.kind]) ++ F9 r.n) ++ [u8 r.owner]) r.text.data.toList:=by rw [← l377E.out,← l368E.out,← l354E.out,← l341E.out,← l332E.out,← l323E.out];simp
      unfold Q7 X7;rw [hh])
   go_wp2_with fail;go_ret
   exact ⟨v9,rfl,by rw [← HE.out];exact O9,S378.out.1⟩
  ·refine K9 rfl ?_
   try go_frame
   go_wp2_with fail;have u379:=Ec9 V344 r.owner;have ha381:=Later.alloc V344 (.cells #[.int .u8 (r.owner % 256)] 5);refine ⟨fun _ => Later.trans hb343 ha381,?_⟩
   generalize V344.alloc (.cells #[.int .u8 (r.owner % 256)] 5) = V380 at u379 ha381 ⊢;generalize (some (⟨V344.heap.size,0,none⟩ : Addr)) = g382 at u379 ⊢;replace q345 : Reads V380 V380.heap.size 1 A337 l341.length (bys l341):=Keeps.keeps (F:=fun w' => Reads w' w'.heap.size 1 A337 l341.length (bys l341)) ha381 q345
   have hb383 : Below V334.heap.size V334 V380:=Later.trans hb343 ha381;clear hb343 ha381;refine R9 (i:=3) (by kernel_rfl) ?_
   refine K9 rfl ?_;try go_frame
   go_wp2_with fail;refine (I8 A337 c338 r.n l341 V380 q345 (by have:=l341B.out;omega)).mono ?_
   rintro e V384 ⟨v386,rfl,o387,ha385⟩;replace o387:=ownsRow_mono o387 hb383.size;clear q345;replace u379 : Reads V384 V384.heap.size 1 g382 1 (bys [u8 r.owner]):=Keeps.keeps (F:=fun w' => Reads w' w'.heap.size 1 g382 1 (bys [u8 r.owner])) ha385 u379
   have hb391 : Below V334.heap.size V334 V384:=Later.trans hb383 ha385;clear hb383 ha385;obtain ⟨A388,c389,rfl,_,_,q390,_⟩:=Owns.shape o387;have o387x : Owns V384 V334.heap.size 5 (.slice A388 (l341 ++ F9 r.n).length c389) (l341 ++ F9 r.n):=o387;clear o387;have l392B : Hid ((l341 ++ F9 r.n).length = 7):=Lib.hid (by have:=l341B.out;simp [F9];omega)
   have l392E : Hid (l341 ++ F9 r.n = l341 ++ F9 r.n):=Lib.hid rfl;revert l392E
   generalize hl : l341 ++ F9 r.n = l392 at q390 o387x l392B ⊢;intro _;have l392E:=Lib.hid hl;clear hl;go_wp2_with fail;refine ⟨fun _ => hb391,?_⟩
   clear q390;refine R9 (i:=8) (by kernel_rfl) ?_
   refine K9 rfl ?_;try go_frame
   refine wpList_append_any _ rfl (.tmp 35) (.tmp 39) _ rfl V334.heap.size 5 i0 _ 1 1 Tryz.underlying22 hi0 hz0 hz1 hz2 rfl (by omega) (.slice A388 l392.length c389) l392.length (bys l392) rfl o387x V384.heap.size g382 1 1 (bys [u8 r.owner]) rfl u379 (bys_one _) (by have:=l392B.out;simp only [maxLen];omega) (by have:=l392B.out;omega) hb391.size ?_
   intro v393 V394 o395 hg396 _;have hb400 : Below V334.heap.size V334 V394:=Below.grown hb391 hg396 hb391.size (fun k hk => (o387x.lt k hk).1)
   have o395x : Owns V394 V334.heap.size 5 v393 (l392 ++ [u8 r.owner]):=by unfold Owns;rw [bys_append,List.length_append];exact o395
   obtain ⟨A397,c398,rfl,_,_,q399,_⟩:=Owns.shape o395x;have l401B:=Lib.hid (Cq9 (l':=[]) l392B.out (u8 r.owner));clear o395 o395x hg396 o387x u379 hb391;generalize hl : l392 ++ [u8 r.owner] = l401 at q399 l401B ⊢;have l401E:=Lib.hid hl;clear hl;go_wp2_with fail;refine ⟨fun _ => hb400,?_⟩
   refine R9 (i:=11) (by kernel_rfl) ?_
   refine K9 rfl ?_;try go_frame
   go_wp2_with fail;refine (Bq9 A397 c398 r.text l401 V394 q399 (by have:=l401B.out;omega) (by omega)).mono ?_
   rintro e V402 ⟨v404,rfl,o405,ha403⟩;replace o405:=ownsRow_mono o405 hb400.size;clear q399;have hb409 : Below V334.heap.size V334 V402:=Later.trans hb400 ha403;clear hb400 ha403;obtain ⟨A406,c407,rfl,_,_,q408,_⟩:=Owns.shape o405;have o405x : Owns V402 V334.heap.size 5 (.slice A406 (ptB l401 r.text.data.toList).length c407) (ptB l401 r.text.data.toList):=o405;clear o405;have l410B : Hid ((ptB l401 r.text.data.toList).length ≤ 109):=Lib.hid (by have:=l401B.out;have:=Ev9 l401 r.text.data.toList;omega)
   have l410E : Hid (ptB l401 r.text.data.toList = ptB l401 r.text.data.toList):=Lib.hid rfl;revert l410E
   generalize hl : ptB l401 r.text.data.toList = l410 at q408 o405x l410B ⊢;intro _;have l410E:=Lib.hid hl;clear hl;go_wp2_with fail;refine ⟨fun _ => hb409,?_⟩
   clear o405x;refine F8 [12] (by kernel_rfl) (LexW.cons rfl ?_)
   try go_frame
   go_wp2_with fail;refine ⟨fun _ => hb409,LexW.nil ?_⟩
   have S411:=S342.later hb409;clear hb409;go_wp2_with fail;refine (Dw9 A406 c407 l410 V402 q408 (by have:=l410B.out;omega)).mono ?_
   rintro e W8 ⟨rfl,rfl⟩;go_wp2_with fail;refine (I8 A406 c407 (crc l410) l410 V402 q408 (by have:=l410B.out;omega)).mono ?_
   rintro e W9 ⟨v9,rfl,o9,hb⟩;have O9:=ownsRow_mono o9 S411.out.1.size;replace S411:=S411.later hb;clear hb o9
   have HE := Lib.hid (show l410 ++ F9 (crc l410) = Q7 (X7 g p r) by
      have hh : l410 = ptB ((((F9 g ++ F9 p) ++ [u8 r.kind]) ++ F9 r.n) ++ [u8 r.owner]) r.text.data.toList:=by rw [← l410E.out,← l401E.out,← l392E.out,← l341E.out,← l332E.out,← l323E.out];simp
      unfold Q7 X7;rw [hh])
   go_wp2_with fail;go_ret
   exact ⟨v9,rfl,by rw [← HE.out];exact O9,S411.out.1⟩
theorem Mj9 (g p : Int) (r : Rec) (w : World) (hg : Given w) (hs : r.text.size ≤ 1048576) : Calls Tryz.prog 27 #[.int .i64 g,.int .i64 p,.agg (M8 r).toArray] w (Gv9 w (Ah9 g p r)):=by
 cases h0 : Ak9 r
 ·rw [Gz9 (.inl h0)];exact Mi9 g p r w h0 rfl rfl rfl hg
 ·cases h1 : inI g 0 65535
  ·rw [Gz9 (.inr (.inl h1))];exact Mi9 g p r w h0 h1 rfl rfl hg
  ·cases h2 : inI p 0 65535
   ·rw [Gz9 (.inr (.inr h2))];exact Mi9 g p r w h0 h1 h2 rfl hg
   ·rw [Zj9 h0 h1 h2];exact Cu8 g p r w hg hs h0 h1 h2
end Go.Proofs.YthpkdjflndiojaaGreatDoor
