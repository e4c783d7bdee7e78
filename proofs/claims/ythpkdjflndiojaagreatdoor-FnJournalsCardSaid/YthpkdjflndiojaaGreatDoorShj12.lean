/- What the theorem needs, out of many texts. -/
import Derived.Test.YthpkdjflndiojaaGreatDoorShj11
set_option maxHeartbeats 20000000
namespace Go.Proofs.YthpkdjflndiojaaGreatDoor
open Go.RowKit
set_option maxRecDepth 100000
set_option linter.unusedVariables false
def Lj9 (k : Known) (r : Rec) : Known × Bool:=if k.gen < r.n then (⟨k.gen,k.text,r.n,r.text,k.epoch,k.owner⟩,true) else (k,false)
def Np9 (k : Known) (r : Rec) : Known × Bool:=if r.n = k.pGen then (⟨k.pGen,k.pText,0,⟨#[]⟩,k.epoch,k.owner⟩,true) else (k,false)
def Iw9 (k : Known) (r : Rec) : Known × Bool:=if k.epoch < r.n then (⟨k.gen,k.text,k.pGen,k.pText,r.n,r.owner⟩,true) else (k,false)
noncomputable def K8 (k : Known) (r : Rec) : Known × Bool:=
 if (Ax9 k && Ak9 r) = true then (if r.kind = 1 then Lj9 k r else if r.kind = 2 then Np9 k r else Iw9 k r) else (k,false)
def Nc9 (w : World) (g : Nat) (p : Known × Bool) (e : Ending) (w' : World) : Prop:=
 e = .returned (.bool p.2)∧w'.heap[g]? = some (.cells (T9 p.1).toArray 35 (0,0))∧Rep.Only w w' [g]
theorem only_alloc (w : World) (o : Obj) {g : Nat} : Rep.Only w (w.alloc o) [g]:=(Rep.only_alloc w o).mono (by simp)
theorem Aq9 {w : World} {g b i j : Nat} {u v : Value} (h : w.cell? ⟨b,j,none⟩ = some v) (hne : g ≠ b) : (w.setCell ⟨g,i,none⟩ u).cell? ⟨b,j,none⟩ = some v:=
 (World.cell?_setCell_other w ⟨g,i,none⟩ ⟨b,j,none⟩ u (fun e => by cases e;exact hne rfl)).trans h
theorem Ci9 {w : World} {g i j : Nat} {u v : Value} (h : w.cell? ⟨g,j,none⟩ = some v) (hne : i ≠ j) : (w.setCell ⟨g,i,none⟩ u).cell? ⟨g,j,none⟩ = some v:=
 (World.cell?_setCell_other w ⟨g,i,none⟩ ⟨g,j,none⟩ u (fun e => by cases e;exact hne rfl)).trans h
theorem Xj9 (g : Nat) (k : Known) (r : Rec) (w : World) (hv : w.heap[g]? = some (.cells (T9 k).toArray 35 (0,0))) (hlt : ¬ (k.gen < r.n)) :
 Calls Tryz.prog 85 #[.pointer (some ⟨g,0,none⟩),.agg (M8 r).toArray] w (Nc9 w g (k,false)):=by
 have hgl : g < w.heap.size:=(Array.getElem?_eq_some_iff.1 hv).1;have S : All (fun w' => Rep.Only w w' [g]∧Hid (w'.heap[g]? = some (.cells (T9 k).toArray 35 (0,0)))∧Hid (w'.heap[w.heap.size]? = some (.cells (M8 r).toArray 29 (0,0)))) (w.alloc (.cells #[.int .i64 r.kind,.int .i64 r.n,.int .i64 r.owner,.string r.text] 29)):=
  ⟨only_alloc w _,Lib.hid ((Below.heap_alloc w _ g hgl).trans hv),Lib.hid (heap_alloc_new w _)⟩
 have hgz : g ≠ w.heap.size:=by omega
 have hgz' : w.heap.size ≠ g:=by omega
 have hz : w.heap.size < (w.alloc (.cells #[.int .i64 r.kind,.int .i64 r.n,.int .i64 r.owner,.string r.text] 29)).heap.size:=by simp
 clear hv;have q' : r.n ≤ k.gen:=by omega
 have q : decide (r.n ≤ k.gen) = true:=decide_eq_true q';show Calls Tryz.prog 85 #[.pointer (some ⟨g,0,none⟩),.agg #[.int .i64 r.kind,.int .i64 r.n,.int .i64 r.owner,.string r.text]] w _
 go_enter Tryz.func85,Tryz.ntmps85
 go_wp2_with fail;generalize w.alloc (.cells #[.int .i64 r.kind,.int .i64 r.n,.int .i64 r.owner,.string r.text] 29) = W1 at S hz ⊢;obtain ⟨c0,c1,c2,c3,c4,c5⟩:=I9 S.out.2.1.out;obtain ⟨d0,d1,d2,d3⟩:=J9 S.out.2.2.out;go_quiet (fail)
 go_wp2_with fail;go_ret
 exact ⟨rfl,S.out.2.1.out,⟨S.out.1.os,S.out.1.tape,S.out.1.output,S.out.1.size,S.out.1.block⟩⟩
theorem Vb9 (g : Nat) (k : Known) (r : Rec) (w : World) (hv : w.heap[g]? = some (.cells (T9 k).toArray 35 (0,0))) (hlt : k.gen < r.n) :
 Calls Tryz.prog 85 #[.pointer (some ⟨g,0,none⟩),.agg (M8 r).toArray] w (Nc9 w g (⟨k.gen,k.text,r.n,r.text,k.epoch,k.owner⟩,true)):=by
 have hgl : g < w.heap.size:=(Array.getElem?_eq_some_iff.1 hv).1;have S : All (fun w' => Rep.Only w w' [g]∧Hid (w'.heap[g]? = some (.cells (T9 k).toArray 35 (0,0)))∧Hid (w'.heap[w.heap.size]? = some (.cells (M8 r).toArray 29 (0,0)))) (w.alloc (.cells #[.int .i64 r.kind,.int .i64 r.n,.int .i64 r.owner,.string r.text] 29)):=
  ⟨only_alloc w _,Lib.hid ((Below.heap_alloc w _ g hgl).trans hv),Lib.hid (heap_alloc_new w _)⟩
 have hgz : g ≠ w.heap.size:=by omega
 have hgz' : w.heap.size ≠ g:=by omega
 have hz : w.heap.size < (w.alloc (.cells #[.int .i64 r.kind,.int .i64 r.n,.int .i64 r.owner,.string r.text] 29)).heap.size:=by simp
 clear hv;have q' : ¬ r.n ≤ k.gen:=by omega
 have q : decide (r.n ≤ k.gen) = false:=decide_eq_false q';show Calls Tryz.prog 85 #[.pointer (some ⟨g,0,none⟩),.agg #[.int .i64 r.kind,.int .i64 r.n,.int .i64 r.owner,.string r.text]] w _
 go_enter Tryz.func85,Tryz.ntmps85
 go_wp2_with fail;generalize w.alloc (.cells #[.int .i64 r.kind,.int .i64 r.n,.int .i64 r.owner,.string r.text] 29) = W1 at S hz ⊢;obtain ⟨c0,c1,c2,c3,c4,c5⟩:=I9 S.out.2.1.out;obtain ⟨d0,d1,d2,d3⟩:=J9 S.out.2.2.out;go_quiet (fail)
 go_wp2_with fail;have f0:=fun i => C9 S.out.2.1.out i
 refine M9 100 [0,1,2,3,4,5,6,7] [8,9,10,11] (fun w' => w'.cell? ⟨w.heap.size,1,none⟩ = some (.int .i64 r.n)∧w'.cell? ⟨w.heap.size,3,none⟩ = some (.string r.text)) (by kernel_rfl) (by kernel_rfl) ⟨d1,d3⟩ ?_
 iterate 8 (refine LexR.cons rfl ?_ (fun w' hw => ?_) ?_;rotate_left;focus (obtain ⟨e0,e1⟩:=hw;go_simp;(try exact rfl));(try go_frame))
 refine LexR.nil (LexW.cons rfl ?_);go_wp2_with fail;refine ⟨fun _ => ⟨Aq9 d1 hgz,Aq9 d3 hgz⟩,LexW.cons rfl ?_⟩
 try go_frame
 go_wp2_with fail;refine ⟨fun _ => ⟨Aq9 d1 hgz,Aq9 d3 hgz⟩,LexW.cons rfl ?_⟩
 try go_frame
 go_wp2_with fail;refine ⟨fun _ => ⟨Aq9 d1 hgz,Aq9 d3 hgz⟩,LexW.cons rfl ?_⟩
 try go_frame
 go_wp2_with fail;refine ⟨fun _ => ⟨Aq9 (Aq9 d1 hgz) hgz,Aq9 (Aq9 d3 hgz) hgz⟩,LexW.nil ?_⟩
 go_wp2_with fail;go_ret
 refine ⟨rfl,(N9 (N9 S.out.2.1.out 2 (.int .i64 r.n)) 3 (.string r.text)),?_⟩;repeat refine Rep.Only.trans ?_ (Rep.Only.setCell (fp:=[g]) _ (by simp) _)
 exact ⟨S.out.1.os,S.out.1.tape,S.out.1.output,S.out.1.size,S.out.1.block⟩
theorem Do8 (g : Nat) (k : Known) (r : Rec) (w : World) (hv : w.heap[g]? = some (.cells (T9 k).toArray 35 (0,0))) (hlt : ¬ (k.epoch < r.n)) :
 Calls Tryz.prog 87 #[.pointer (some ⟨g,0,none⟩),.agg (M8 r).toArray] w (Nc9 w g (k,false)):=by
 have hgl : g < w.heap.size:=(Array.getElem?_eq_some_iff.1 hv).1;have S : All (fun w' => Rep.Only w w' [g]∧Hid (w'.heap[g]? = some (.cells (T9 k).toArray 35 (0,0)))∧Hid (w'.heap[w.heap.size]? = some (.cells (M8 r).toArray 29 (0,0)))) (w.alloc (.cells #[.int .i64 r.kind,.int .i64 r.n,.int .i64 r.owner,.string r.text] 29)):=
  ⟨only_alloc w _,Lib.hid ((Below.heap_alloc w _ g hgl).trans hv),Lib.hid (heap_alloc_new w _)⟩
 have hgz : g ≠ w.heap.size:=by omega
 have hgz' : w.heap.size ≠ g:=by omega
 have hz : w.heap.size < (w.alloc (.cells #[.int .i64 r.kind,.int .i64 r.n,.int .i64 r.owner,.string r.text] 29)).heap.size:=by simp
 clear hv;have q' : r.n ≤ k.epoch:=by omega
 have q : decide (r.n ≤ k.epoch) = true:=decide_eq_true q';show Calls Tryz.prog 87 #[.pointer (some ⟨g,0,none⟩),.agg #[.int .i64 r.kind,.int .i64 r.n,.int .i64 r.owner,.string r.text]] w _
 go_enter Tryz.func87,Tryz.ntmps87
 go_wp2_with fail;generalize w.alloc (.cells #[.int .i64 r.kind,.int .i64 r.n,.int .i64 r.owner,.string r.text] 29) = W1 at S hz ⊢;obtain ⟨c0,c1,c2,c3,c4,c5⟩:=I9 S.out.2.1.out;obtain ⟨d0,d1,d2,d3⟩:=J9 S.out.2.2.out;go_quiet (fail)
 go_wp2_with fail;go_ret
 exact ⟨rfl,S.out.2.1.out,⟨S.out.1.os,S.out.1.tape,S.out.1.output,S.out.1.size,S.out.1.block⟩⟩
theorem Bt8 (g : Nat) (k : Known) (r : Rec) (w : World) (hv : w.heap[g]? = some (.cells (T9 k).toArray 35 (0,0))) (hlt : k.epoch < r.n) :
 Calls Tryz.prog 87 #[.pointer (some ⟨g,0,none⟩),.agg (M8 r).toArray] w (Nc9 w g (⟨k.gen,k.text,k.pGen,k.pText,r.n,r.owner⟩,true)):=by
 have hgl : g < w.heap.size:=(Array.getElem?_eq_some_iff.1 hv).1;have S : All (fun w' => Rep.Only w w' [g]∧Hid (w'.heap[g]? = some (.cells (T9 k).toArray 35 (0,0)))∧Hid (w'.heap[w.heap.size]? = some (.cells (M8 r).toArray 29 (0,0)))) (w.alloc (.cells #[.int .i64 r.kind,.int .i64 r.n,.int .i64 r.owner,.string r.text] 29)):=
  ⟨only_alloc w _,Lib.hid ((Below.heap_alloc w _ g hgl).trans hv),Lib.hid (heap_alloc_new w _)⟩
 have hgz : g ≠ w.heap.size:=by omega
 have hgz' : w.heap.size ≠ g:=by omega
 have hz : w.heap.size < (w.alloc (.cells #[.int .i64 r.kind,.int .i64 r.n,.int .i64 r.owner,.string r.text] 29)).heap.size:=by simp
 clear hv;have q' : ¬ r.n ≤ k.epoch:=by omega
 have q : decide (r.n ≤ k.epoch) = false:=decide_eq_false q';show Calls Tryz.prog 87 #[.pointer (some ⟨g,0,none⟩),.agg #[.int .i64 r.kind,.int .i64 r.n,.int .i64 r.owner,.string r.text]] w _
 go_enter Tryz.func87,Tryz.ntmps87
 go_wp2_with fail;generalize w.alloc (.cells #[.int .i64 r.kind,.int .i64 r.n,.int .i64 r.owner,.string r.text] 29) = W1 at S hz ⊢;obtain ⟨c0,c1,c2,c3,c4,c5⟩:=I9 S.out.2.1.out;obtain ⟨d0,d1,d2,d3⟩:=J9 S.out.2.2.out;go_quiet (fail)
 go_wp2_with fail;have f0:=fun i => C9 S.out.2.1.out i
 refine M9 100 [0,1,2,3,4,5,6,7] [8,9,10,11] (fun w' => w'.cell? ⟨w.heap.size,1,none⟩ = some (.int .i64 r.n)∧w'.cell? ⟨w.heap.size,2,none⟩ = some (.int .i64 r.owner)) (by kernel_rfl) (by kernel_rfl) ⟨d1,d2⟩ ?_
 iterate 8 (refine LexR.cons rfl ?_ (fun w' hw => ?_) ?_;rotate_left;focus (obtain ⟨e0,e1⟩:=hw;go_simp;(try exact rfl));(try go_frame))
 refine LexR.nil (LexW.cons rfl ?_);go_wp2_with fail;refine ⟨fun _ => ⟨Aq9 d1 hgz,Aq9 d2 hgz⟩,LexW.cons rfl ?_⟩
 try go_frame
 go_wp2_with fail;refine ⟨fun _ => ⟨Aq9 d1 hgz,Aq9 d2 hgz⟩,LexW.cons rfl ?_⟩
 try go_frame
 go_wp2_with fail;refine ⟨fun _ => ⟨Aq9 d1 hgz,Aq9 d2 hgz⟩,LexW.cons rfl ?_⟩
 try go_frame
 go_wp2_with fail;refine ⟨fun _ => ⟨Aq9 (Aq9 d1 hgz) hgz,Aq9 (Aq9 d2 hgz) hgz⟩,LexW.nil ?_⟩
 go_wp2_with fail;go_ret
 refine ⟨rfl,(N9 (N9 S.out.2.1.out 4 (.int .i64 r.n)) 5 (.int .i64 r.owner)),?_⟩;repeat refine Rep.Only.trans ?_ (Rep.Only.setCell (fp:=[g]) _ (by simp) _)
 exact ⟨S.out.1.os,S.out.1.tape,S.out.1.output,S.out.1.size,S.out.1.block⟩
theorem comm_no (g : Nat) (k : Known) (r : Rec) (w : World) (hv : w.heap[g]? = some (.cells (T9 k).toArray 35 (0,0))) (hlt : ¬ (r.n = k.pGen)) :
 Calls Tryz.prog 86 #[.pointer (some ⟨g,0,none⟩),.agg (M8 r).toArray] w (Nc9 w g (k,false)):=by
 have hgl : g < w.heap.size:=(Array.getElem?_eq_some_iff.1 hv).1;have S : All (fun w' => Rep.Only w w' [g]∧Hid (w'.heap[g]? = some (.cells (T9 k).toArray 35 (0,0)))∧Hid (w'.heap[w.heap.size]? = some (.cells (M8 r).toArray 29 (0,0)))) (w.alloc (.cells #[.int .i64 r.kind,.int .i64 r.n,.int .i64 r.owner,.string r.text] 29)):=
  ⟨only_alloc w _,Lib.hid ((Below.heap_alloc w _ g hgl).trans hv),Lib.hid (heap_alloc_new w _)⟩
 have hgz : g ≠ w.heap.size:=by omega
 have hgz' : w.heap.size ≠ g:=by omega
 have hz : w.heap.size < (w.alloc (.cells #[.int .i64 r.kind,.int .i64 r.n,.int .i64 r.owner,.string r.text] 29)).heap.size:=by simp
 clear hv;have q : (r.n != k.pGen) = true:=by simp;exact hlt
 clear hlt;show Calls Tryz.prog 86 #[.pointer (some ⟨g,0,none⟩),.agg #[.int .i64 r.kind,.int .i64 r.n,.int .i64 r.owner,.string r.text]] w _
 go_enter Tryz.func86,Tryz.ntmps86
 go_wp2_with fail;generalize w.alloc (.cells #[.int .i64 r.kind,.int .i64 r.n,.int .i64 r.owner,.string r.text] 29) = W1 at S hz ⊢;obtain ⟨c0,c1,c2,c3,c4,c5⟩:=I9 S.out.2.1.out;obtain ⟨d0,d1,d2,d3⟩:=J9 S.out.2.2.out;go_quiet (fail)
 go_wp2_with fail;go_ret
 exact ⟨rfl,S.out.2.1.out,⟨S.out.1.os,S.out.1.tape,S.out.1.output,S.out.1.size,S.out.1.block⟩⟩
theorem Dw8 (g : Nat) (k : Known) (r : Rec) (w : World) (hv : w.heap[g]? = some (.cells (T9 k).toArray 35 (0,0))) (hlt : r.n = k.pGen) :
 Calls Tryz.prog 86 #[.pointer (some ⟨g,0,none⟩),.agg (M8 r).toArray] w (Nc9 w g (⟨k.pGen,k.pText,0,⟨#[]⟩,k.epoch,k.owner⟩,true)):=by
 have hgl : g < w.heap.size:=(Array.getElem?_eq_some_iff.1 hv).1;have S : All (fun w' => Rep.Only w w' [g]∧Hid (w'.heap[g]? = some (.cells (T9 k).toArray 35 (0,0)))∧Hid (w'.heap[w.heap.size]? = some (.cells (M8 r).toArray 29 (0,0)))) (w.alloc (.cells #[.int .i64 r.kind,.int .i64 r.n,.int .i64 r.owner,.string r.text] 29)):=
  ⟨only_alloc w _,Lib.hid ((Below.heap_alloc w _ g hgl).trans hv),Lib.hid (heap_alloc_new w _)⟩
 have hgz : g ≠ w.heap.size:=by omega
 have hgz' : w.heap.size ≠ g:=by omega
 have hz : w.heap.size < (w.alloc (.cells #[.int .i64 r.kind,.int .i64 r.n,.int .i64 r.owner,.string r.text] 29)).heap.size:=by simp
 clear hv;have q : (r.n != k.pGen) = false:=by simp;exact hlt
 have HQ:=Lib.hid hlt;clear hlt;show Calls Tryz.prog 86 #[.pointer (some ⟨g,0,none⟩),.agg #[.int .i64 r.kind,.int .i64 r.n,.int .i64 r.owner,.string r.text]] w _
 go_enter Tryz.func86,Tryz.ntmps86
 go_wp2_with fail;generalize w.alloc (.cells #[.int .i64 r.kind,.int .i64 r.n,.int .i64 r.owner,.string r.text] 29) = W1 at S hz ⊢;obtain ⟨c0,c1,c2,c3,c4,c5⟩:=I9 S.out.2.1.out;obtain ⟨d0,d1,d2,d3⟩:=J9 S.out.2.2.out;go_quiet (fail)
 go_wp2_with fail;have f0:=fun i => C9 S.out.2.1.out i
 refine M9 100 [0,1,2,3,4,5,6,7,8,9,10,11] [12,13,14,15] (fun w' => w'.cell? ⟨g,2,none⟩ = some (.int .i64 k.pGen)∧w'.cell? ⟨g,3,none⟩ = some (.string k.pText)) (by kernel_rfl) (by kernel_rfl) ⟨c2,c3⟩ ?_
 iterate 12 (refine LexR.cons rfl ?_ (fun w' hw => ?_) ?_;rotate_left;focus (obtain ⟨e0,e1⟩:=hw;go_simp;(try exact rfl));(try go_frame))
 refine LexR.nil (LexW.cons rfl ?_);go_wp2_with fail;refine ⟨fun _ => ⟨Ci9 c2 (by omega),Ci9 c3 (by omega)⟩,LexW.cons rfl ?_⟩
 try go_frame
 go_wp2_with fail;refine ⟨fun _ => ⟨Ci9 c2 (by omega),Ci9 c3 (by omega)⟩,LexW.cons rfl ?_⟩
 try go_frame
 go_wp2_with fail;refine ⟨fun _ => ⟨Ci9 c2 (by omega),Ci9 c3 (by omega)⟩,LexW.cons rfl ?_⟩
 try go_frame
 go_wp2_with fail;refine ⟨fun _ => ⟨Ci9 (Ci9 c2 (by omega)) (by omega),Ci9 (Ci9 c3 (by omega)) (by omega)⟩,LexW.nil ?_⟩
 go_wp2_with fail;go_ret
 refine ⟨rfl,(N9 (N9 (N9 (N9 S.out.2.1.out 0 (.int .i64 k.pGen)) 1 (.string k.pText)) 2 (.int .i64 0)) 3 (.string ⟨#[]⟩)),?_⟩;repeat refine Rep.Only.trans ?_ (Rep.Only.setCell (fp:=[g]) _ (by simp) _)
 exact ⟨S.out.1.os,S.out.1.tape,S.out.1.output,S.out.1.size,S.out.1.block⟩
def RetKB (w : World) (p : Known × Bool) (e : Ending) (w' : World) : Prop:=e = .returned (.tuple #[.agg (T9 p.1).toArray,.bool p.2])∧Below w.heap.size w w'
set_option maxRecDepth 100000 in
theorem Zd9 (k : Known) (r : Rec) (w : World) (hk : Ax9 k = false) :
 Calls Tryz.prog 22 #[.agg (T9 k).toArray,.agg (M8 r).toArray] w (RetKB w ((k,false))):=by
 have S : All (fun w' => Below w.heap.size w w'∧Hid (w'.heap[w.heap.size]? = some (.cells (T9 k).toArray 35 (0,0)))∧Hid (w'.heap[w.heap.size + 1]? = some (.cells (M8 r).toArray 29 (0,0)))∧Hid (w'.heap[w.heap.size + 1 + 1]? = some (.cells (T9 knownZero).toArray 35 (0,0)))∧w.heap.size + 1 + 1 < w'.heap.size) (((w.alloc (.cells #[.int .i64 k.gen,.string k.text,.int .i64 k.pGen,.string k.pText,.int .i64 k.epoch,.int .i64 k.owner] 35)).alloc (.cells #[.int .i64 r.kind,.int .i64 r.n,.int .i64 r.owner,.string r.text] 29)).alloc (.cells #[.int .i64 0,.string ⟨#[]⟩,.int .i64 0,.string ⟨#[]⟩,.int .i64 0,.int .i64 0] 35)):=by
  refine ⟨(((Below.refl _ _).alloc (Nat.le_refl _) _).alloc (by simp) _).alloc (by simp;omega) _,Lib.hid ?_,Lib.hid ?_,Lib.hid ?_,by simp⟩
  ·rw [Below.heap_alloc _ _ _ (by simp;omega),Below.heap_alloc _ _ _ (by simp)];exact heap_alloc_new w _
  ·rw [Below.heap_alloc _ _ _ (by simp)];exact G9 _ _ (by simp)
  ·exact G9 _ _ (by simp)
 show Calls Tryz.prog 22 #[.agg #[.int .i64 k.gen,.string k.text,.int .i64 k.pGen,.string k.pText,.int .i64 k.epoch,.int .i64 k.owner],.agg #[.int .i64 r.kind,.int .i64 r.n,.int .i64 r.owner,.string r.text]] w _
 unfold RetKB;go_enter Tryz.func22,Tryz.ntmps22
 go_wp2_with fail;generalize ((w.alloc (.cells #[.int .i64 k.gen,.string k.text,.int .i64 k.pGen,.string k.pText,.int .i64 k.epoch,.int .i64 k.owner] 35)).alloc (.cells #[.int .i64 r.kind,.int .i64 r.n,.int .i64 r.owner,.string r.text] 29)).alloc (.cells #[.int .i64 0,.string ⟨#[]⟩,.int .i64 0,.string ⟨#[]⟩,.int .i64 0,.int .i64 0] 35) = W at S ⊢;refine (Bs9 k _).mono ?_;rw [hk];rintro e W1 ⟨rfl,hb⟩;replace S:=S.later hb;clear hb;obtain ⟨c0,c1,c2,c3,c4,c5⟩:=I9 S.out.2.1.out;obtain ⟨d0,d1,d2,d3⟩:=J9 S.out.2.2.1.out;obtain ⟨z0,z1,z2,z3,z4,z5⟩:=I9 S.out.2.2.2.1.out;have zf:=fun i => C9 S.out.2.2.2.1.out i
 have hbe:=S.out.1;have hsz:=S.out.2.2.2.2;have hsz1 : w.heap.size + 1 < W1.heap.size:=by omega
 have hsz0 : w.heap.size < W1.heap.size:=by omega
 clear S;go_wp2_with fail;refine bodyPost_ret (v:=.tuple #[.agg #[.int .i64 k.gen,.string k.text,.int .i64 k.pGen,.string k.pText,.int .i64 k.epoch,.int .i64 k.owner],.bool false]) (by simp [results,Tryz.results22,go_sem,z0,z1,z2,z3,z4,z5]) rfl ⟨rfl,?_⟩
 exact ((((((hbe.setCell (p:=⟨w.heap.size + 1 + 1,0,none⟩) (by simp;omega) _).setCell (p:=⟨w.heap.size + 1 + 1,1,none⟩) (by simp;omega) _).setCell (p:=⟨w.heap.size + 1 + 1,2,none⟩) (by simp;omega) _).setCell (p:=⟨w.heap.size + 1 + 1,3,none⟩) (by simp;omega) _).setCell (p:=⟨w.heap.size + 1 + 1,4,none⟩) (by simp;omega) _).setCell (p:=⟨w.heap.size + 1 + 1,5,none⟩) (by simp;omega) _)
set_option maxRecDepth 100000 in
theorem Zc9 (k : Known) (r : Rec) (w : World) (hk : Ax9 k = true) (hr : Ak9 r = false) :
 Calls Tryz.prog 22 #[.agg (T9 k).toArray,.agg (M8 r).toArray] w (RetKB w ((k,false))):=by
 have S : All (fun w' => Below w.heap.size w w'∧Hid (w'.heap[w.heap.size]? = some (.cells (T9 k).toArray 35 (0,0)))∧Hid (w'.heap[w.heap.size + 1]? = some (.cells (M8 r).toArray 29 (0,0)))∧Hid (w'.heap[w.heap.size + 1 + 1]? = some (.cells (T9 knownZero).toArray 35 (0,0)))∧w.heap.size + 1 + 1 < w'.heap.size) (((w.alloc (.cells #[.int .i64 k.gen,.string k.text,.int .i64 k.pGen,.string k.pText,.int .i64 k.epoch,.int .i64 k.owner] 35)).alloc (.cells #[.int .i64 r.kind,.int .i64 r.n,.int .i64 r.owner,.string r.text] 29)).alloc (.cells #[.int .i64 0,.string ⟨#[]⟩,.int .i64 0,.string ⟨#[]⟩,.int .i64 0,.int .i64 0] 35)):=by
  refine ⟨(((Below.refl _ _).alloc (Nat.le_refl _) _).alloc (by simp) _).alloc (by simp;omega) _,Lib.hid ?_,Lib.hid ?_,Lib.hid ?_,by simp⟩
  ·rw [Below.heap_alloc _ _ _ (by simp;omega),Below.heap_alloc _ _ _ (by simp)];exact heap_alloc_new w _
  ·rw [Below.heap_alloc _ _ _ (by simp)];exact G9 _ _ (by simp)
  ·exact G9 _ _ (by simp)
 show Calls Tryz.prog 22 #[.agg #[.int .i64 k.gen,.string k.text,.int .i64 k.pGen,.string k.pText,.int .i64 k.epoch,.int .i64 k.owner],.agg #[.int .i64 r.kind,.int .i64 r.n,.int .i64 r.owner,.string r.text]] w _
 unfold RetKB;go_enter Tryz.func22,Tryz.ntmps22
 go_wp2_with fail;generalize ((w.alloc (.cells #[.int .i64 k.gen,.string k.text,.int .i64 k.pGen,.string k.pText,.int .i64 k.epoch,.int .i64 k.owner] 35)).alloc (.cells #[.int .i64 r.kind,.int .i64 r.n,.int .i64 r.owner,.string r.text] 29)).alloc (.cells #[.int .i64 0,.string ⟨#[]⟩,.int .i64 0,.string ⟨#[]⟩,.int .i64 0,.int .i64 0] 35) = W at S ⊢;refine (Bs9 k _).mono ?_;rw [hk];rintro e W1 ⟨rfl,hb⟩;replace S:=S.later hb;clear hb;obtain ⟨c0,c1,c2,c3,c4,c5⟩:=I9 S.out.2.1.out;obtain ⟨d0,d1,d2,d3⟩:=J9 S.out.2.2.1.out;go_wp2_with fail;refine (By9 r _).mono ?_;rw [hr];rintro e W2 ⟨rfl,hb⟩;replace S:=S.later hb;clear hb;clear c0 c1 c2 c3 c4 c5 d0 d1 d2 d3;obtain ⟨c0,c1,c2,c3,c4,c5⟩:=I9 S.out.2.1.out;obtain ⟨d0,d1,d2,d3⟩:=J9 S.out.2.2.1.out;obtain ⟨z0,z1,z2,z3,z4,z5⟩:=I9 S.out.2.2.2.1.out;have zf:=fun i => C9 S.out.2.2.2.1.out i
 have hbe:=S.out.1;have hsz:=S.out.2.2.2.2;have hsz1 : w.heap.size + 1 < W2.heap.size:=by omega
 have hsz0 : w.heap.size < W2.heap.size:=by omega
 clear S;go_wp2_with fail;refine bodyPost_ret (v:=.tuple #[.agg #[.int .i64 k.gen,.string k.text,.int .i64 k.pGen,.string k.pText,.int .i64 k.epoch,.int .i64 k.owner],.bool false]) (by simp [results,Tryz.results22,go_sem,z0,z1,z2,z3,z4,z5]) rfl ⟨rfl,?_⟩
 exact ((((((hbe.setCell (p:=⟨w.heap.size + 1 + 1,0,none⟩) (by simp;omega) _).setCell (p:=⟨w.heap.size + 1 + 1,1,none⟩) (by simp;omega) _).setCell (p:=⟨w.heap.size + 1 + 1,2,none⟩) (by simp;omega) _).setCell (p:=⟨w.heap.size + 1 + 1,3,none⟩) (by simp;omega) _).setCell (p:=⟨w.heap.size + 1 + 1,4,none⟩) (by simp;omega) _).setCell (p:=⟨w.heap.size + 1 + 1,5,none⟩) (by simp;omega) _)
set_option maxRecDepth 100000 in
theorem Nv9 (k : Known) (r : Rec) (w : World) (hk : Ax9 k = true) (hr : Ak9 r = true) (hkd : r.kind = 1) (hlt : k.gen < r.n) :
 Calls Tryz.prog 22 #[.agg (T9 k).toArray,.agg (M8 r).toArray] w (RetKB w ((⟨k.gen,k.text,r.n,r.text,k.epoch,k.owner⟩,true))):=by
 have q1 : (r.kind == 1) = true:=by simpa using hkd
 have q' : ¬ r.n ≤ k.gen:=by omega
 clear hkd;have S : All (fun w' => Below w.heap.size w w'∧Hid (w'.heap[w.heap.size]? = some (.cells (T9 k).toArray 35 (0,0)))∧Hid (w'.heap[w.heap.size + 1]? = some (.cells (M8 r).toArray 29 (0,0)))∧Hid (w'.heap[w.heap.size + 1 + 1]? = some (.cells (T9 knownZero).toArray 35 (0,0)))∧w.heap.size + 1 + 1 < w'.heap.size) (((w.alloc (.cells #[.int .i64 k.gen,.string k.text,.int .i64 k.pGen,.string k.pText,.int .i64 k.epoch,.int .i64 k.owner] 35)).alloc (.cells #[.int .i64 r.kind,.int .i64 r.n,.int .i64 r.owner,.string r.text] 29)).alloc (.cells #[.int .i64 0,.string ⟨#[]⟩,.int .i64 0,.string ⟨#[]⟩,.int .i64 0,.int .i64 0] 35)):=by
  refine ⟨(((Below.refl _ _).alloc (Nat.le_refl _) _).alloc (by simp) _).alloc (by simp;omega) _,Lib.hid ?_,Lib.hid ?_,Lib.hid ?_,by simp⟩
  ·rw [Below.heap_alloc _ _ _ (by simp;omega),Below.heap_alloc _ _ _ (by simp)];exact heap_alloc_new w _
  ·rw [Below.heap_alloc _ _ _ (by simp)];exact G9 _ _ (by simp)
  ·exact G9 _ _ (by simp)
 show Calls Tryz.prog 22 #[.agg #[.int .i64 k.gen,.string k.text,.int .i64 k.pGen,.string k.pText,.int .i64 k.epoch,.int .i64 k.owner],.agg #[.int .i64 r.kind,.int .i64 r.n,.int .i64 r.owner,.string r.text]] w _
 unfold RetKB;go_enter Tryz.func22,Tryz.ntmps22
 go_wp2_with fail;generalize ((w.alloc (.cells #[.int .i64 k.gen,.string k.text,.int .i64 k.pGen,.string k.pText,.int .i64 k.epoch,.int .i64 k.owner] 35)).alloc (.cells #[.int .i64 r.kind,.int .i64 r.n,.int .i64 r.owner,.string r.text] 29)).alloc (.cells #[.int .i64 0,.string ⟨#[]⟩,.int .i64 0,.string ⟨#[]⟩,.int .i64 0,.int .i64 0] 35) = W at S ⊢;refine (Bs9 k _).mono ?_;rw [hk];rintro e W1 ⟨rfl,hb⟩;replace S:=S.later hb;clear hb;obtain ⟨c0,c1,c2,c3,c4,c5⟩:=I9 S.out.2.1.out;obtain ⟨d0,d1,d2,d3⟩:=J9 S.out.2.2.1.out;go_wp2_with fail;refine (By9 r _).mono ?_;rw [hr];rintro e W2 ⟨rfl,hb⟩;replace S:=S.later hb;clear hb;clear c0 c1 c2 c3 c4 c5 d0 d1 d2 d3;obtain ⟨c0,c1,c2,c3,c4,c5⟩:=I9 S.out.2.1.out;obtain ⟨d0,d1,d2,d3⟩:=J9 S.out.2.2.1.out;obtain ⟨z0,z1,z2,z3,z4,z5⟩:=I9 S.out.2.2.2.1.out;have zf:=fun i => C9 S.out.2.2.2.1.out i
 have hbe:=S.out.1;have hsz:=S.out.2.2.2.2;have hsz1 : w.heap.size + 1 < W2.heap.size:=by omega
 have hsz0 : w.heap.size < W2.heap.size:=by omega
 clear S;go_wp2_with fail;refine bodyPost_ret (v:=.tuple #[.agg #[.int .i64 k.gen,.string k.text,.int .i64 r.n,.string r.text,.int .i64 k.epoch,.int .i64 k.owner],.bool true]) (by simp [results,Tryz.results22,go_sem,z0,z1,z2,z3,z4,z5,hsz]) rfl ⟨rfl,?_⟩
 exact ((((((hbe.setCell (p:=⟨w.heap.size + 1 + 1,0,none⟩) (by simp;omega) _).setCell (p:=⟨w.heap.size + 1 + 1,1,none⟩) (by simp;omega) _).setCell (p:=⟨w.heap.size + 1 + 1,2,none⟩) (by simp;omega) _).setCell (p:=⟨w.heap.size + 1 + 1,3,none⟩) (by simp;omega) _).setCell (p:=⟨w.heap.size + 1 + 1,4,none⟩) (by simp;omega) _).setCell (p:=⟨w.heap.size + 1 + 1,5,none⟩) (by simp;omega) _).alloc (by simp;omega) _
set_option maxRecDepth 100000 in
theorem Qk9 (k : Known) (r : Rec) (w : World) (hk : Ax9 k = true) (hr : Ak9 r = true) (hkd : r.kind = 1) (hlt : ¬ k.gen < r.n) :
 Calls Tryz.prog 22 #[.agg (T9 k).toArray,.agg (M8 r).toArray] w (RetKB w ((k,false))):=by
 have q1 : (r.kind == 1) = true:=by simpa using hkd
 have q' : r.n ≤ k.gen:=by omega
 clear hkd;have S : All (fun w' => Below w.heap.size w w'∧Hid (w'.heap[w.heap.size]? = some (.cells (T9 k).toArray 35 (0,0)))∧Hid (w'.heap[w.heap.size + 1]? = some (.cells (M8 r).toArray 29 (0,0)))∧Hid (w'.heap[w.heap.size + 1 + 1]? = some (.cells (T9 knownZero).toArray 35 (0,0)))∧w.heap.size + 1 + 1 < w'.heap.size) (((w.alloc (.cells #[.int .i64 k.gen,.string k.text,.int .i64 k.pGen,.string k.pText,.int .i64 k.epoch,.int .i64 k.owner] 35)).alloc (.cells #[.int .i64 r.kind,.int .i64 r.n,.int .i64 r.owner,.string r.text] 29)).alloc (.cells #[.int .i64 0,.string ⟨#[]⟩,.int .i64 0,.string ⟨#[]⟩,.int .i64 0,.int .i64 0] 35)):=by
  refine ⟨(((Below.refl _ _).alloc (Nat.le_refl _) _).alloc (by simp) _).alloc (by simp;omega) _,Lib.hid ?_,Lib.hid ?_,Lib.hid ?_,by simp⟩
  ·rw [Below.heap_alloc _ _ _ (by simp;omega),Below.heap_alloc _ _ _ (by simp)];exact heap_alloc_new w _
  ·rw [Below.heap_alloc _ _ _ (by simp)];exact G9 _ _ (by simp)
  ·exact G9 _ _ (by simp)
 show Calls Tryz.prog 22 #[.agg #[.int .i64 k.gen,.string k.text,.int .i64 k.pGen,.string k.pText,.int .i64 k.epoch,.int .i64 k.owner],.agg #[.int .i64 r.kind,.int .i64 r.n,.int .i64 r.owner,.string r.text]] w _
 unfold RetKB;go_enter Tryz.func22,Tryz.ntmps22
 go_wp2_with fail;generalize ((w.alloc (.cells #[.int .i64 k.gen,.string k.text,.int .i64 k.pGen,.string k.pText,.int .i64 k.epoch,.int .i64 k.owner] 35)).alloc (.cells #[.int .i64 r.kind,.int .i64 r.n,.int .i64 r.owner,.string r.text] 29)).alloc (.cells #[.int .i64 0,.string ⟨#[]⟩,.int .i64 0,.string ⟨#[]⟩,.int .i64 0,.int .i64 0] 35) = W at S ⊢;refine (Bs9 k _).mono ?_;rw [hk];rintro e W1 ⟨rfl,hb⟩;replace S:=S.later hb;clear hb;obtain ⟨c0,c1,c2,c3,c4,c5⟩:=I9 S.out.2.1.out;obtain ⟨d0,d1,d2,d3⟩:=J9 S.out.2.2.1.out;go_wp2_with fail;refine (By9 r _).mono ?_;rw [hr];rintro e W2 ⟨rfl,hb⟩;replace S:=S.later hb;clear hb;clear c0 c1 c2 c3 c4 c5 d0 d1 d2 d3;obtain ⟨c0,c1,c2,c3,c4,c5⟩:=I9 S.out.2.1.out;obtain ⟨d0,d1,d2,d3⟩:=J9 S.out.2.2.1.out;obtain ⟨z0,z1,z2,z3,z4,z5⟩:=I9 S.out.2.2.2.1.out;have zf:=fun i => C9 S.out.2.2.2.1.out i
 have hbe:=S.out.1;have hsz:=S.out.2.2.2.2;have hsz1 : w.heap.size + 1 < W2.heap.size:=by omega
 have hsz0 : w.heap.size < W2.heap.size:=by omega
 clear S;go_wp2_with fail;refine bodyPost_ret (v:=.tuple #[.agg #[.int .i64 k.gen,.string k.text,.int .i64 k.pGen,.string k.pText,.int .i64 k.epoch,.int .i64 k.owner],.bool false]) (by simp [results,Tryz.results22,go_sem,z0,z1,z2,z3,z4,z5,hsz]) rfl ⟨rfl,?_⟩
 exact ((((((hbe.setCell (p:=⟨w.heap.size + 1 + 1,0,none⟩) (by simp;omega) _).setCell (p:=⟨w.heap.size + 1 + 1,1,none⟩) (by simp;omega) _).setCell (p:=⟨w.heap.size + 1 + 1,2,none⟩) (by simp;omega) _).setCell (p:=⟨w.heap.size + 1 + 1,3,none⟩) (by simp;omega) _).setCell (p:=⟨w.heap.size + 1 + 1,4,none⟩) (by simp;omega) _).setCell (p:=⟨w.heap.size + 1 + 1,5,none⟩) (by simp;omega) _).alloc (by simp;omega) _
set_option maxRecDepth 100000 in
theorem Mz9 (k : Known) (r : Rec) (w : World) (hk : Ax9 k = true) (hr : Ak9 r = true) (hkd : r.kind = 3) (hlt : k.epoch < r.n) :
 Calls Tryz.prog 22 #[.agg (T9 k).toArray,.agg (M8 r).toArray] w (RetKB w ((⟨k.gen,k.text,k.pGen,k.pText,r.n,r.owner⟩,true))):=by
 have q1 : (r.kind == 1) = false:=by simp;omega
 have q2 : (r.kind == 2) = false:=by simp;omega
 have q' : ¬ r.n ≤ k.epoch:=by omega
 clear hkd;have S : All (fun w' => Below w.heap.size w w'∧Hid (w'.heap[w.heap.size]? = some (.cells (T9 k).toArray 35 (0,0)))∧Hid (w'.heap[w.heap.size + 1]? = some (.cells (M8 r).toArray 29 (0,0)))∧Hid (w'.heap[w.heap.size + 1 + 1]? = some (.cells (T9 knownZero).toArray 35 (0,0)))∧w.heap.size + 1 + 1 < w'.heap.size) (((w.alloc (.cells #[.int .i64 k.gen,.string k.text,.int .i64 k.pGen,.string k.pText,.int .i64 k.epoch,.int .i64 k.owner] 35)).alloc (.cells #[.int .i64 r.kind,.int .i64 r.n,.int .i64 r.owner,.string r.text] 29)).alloc (.cells #[.int .i64 0,.string ⟨#[]⟩,.int .i64 0,.string ⟨#[]⟩,.int .i64 0,.int .i64 0] 35)):=by
  refine ⟨(((Below.refl _ _).alloc (Nat.le_refl _) _).alloc (by simp) _).alloc (by simp;omega) _,Lib.hid ?_,Lib.hid ?_,Lib.hid ?_,by simp⟩
  ·rw [Below.heap_alloc _ _ _ (by simp;omega),Below.heap_alloc _ _ _ (by simp)];exact heap_alloc_new w _
  ·rw [Below.heap_alloc _ _ _ (by simp)];exact G9 _ _ (by simp)
  ·exact G9 _ _ (by simp)
 show Calls Tryz.prog 22 #[.agg #[.int .i64 k.gen,.string k.text,.int .i64 k.pGen,.string k.pText,.int .i64 k.epoch,.int .i64 k.owner],.agg #[.int .i64 r.kind,.int .i64 r.n,.int .i64 r.owner,.string r.text]] w _
 unfold RetKB;go_enter Tryz.func22,Tryz.ntmps22
 go_wp2_with fail;generalize ((w.alloc (.cells #[.int .i64 k.gen,.string k.text,.int .i64 k.pGen,.string k.pText,.int .i64 k.epoch,.int .i64 k.owner] 35)).alloc (.cells #[.int .i64 r.kind,.int .i64 r.n,.int .i64 r.owner,.string r.text] 29)).alloc (.cells #[.int .i64 0,.string ⟨#[]⟩,.int .i64 0,.string ⟨#[]⟩,.int .i64 0,.int .i64 0] 35) = W at S ⊢;refine (Bs9 k _).mono ?_;rw [hk];rintro e W1 ⟨rfl,hb⟩;replace S:=S.later hb;clear hb;obtain ⟨c0,c1,c2,c3,c4,c5⟩:=I9 S.out.2.1.out;obtain ⟨d0,d1,d2,d3⟩:=J9 S.out.2.2.1.out;go_wp2_with fail;refine (By9 r _).mono ?_;rw [hr];rintro e W2 ⟨rfl,hb⟩;replace S:=S.later hb;clear hb;clear c0 c1 c2 c3 c4 c5 d0 d1 d2 d3;obtain ⟨c0,c1,c2,c3,c4,c5⟩:=I9 S.out.2.1.out;obtain ⟨d0,d1,d2,d3⟩:=J9 S.out.2.2.1.out;obtain ⟨z0,z1,z2,z3,z4,z5⟩:=I9 S.out.2.2.2.1.out;have zf:=fun i => C9 S.out.2.2.2.1.out i
 have hbe:=S.out.1;have hsz:=S.out.2.2.2.2;have hsz1 : w.heap.size + 1 < W2.heap.size:=by omega
 have hsz0 : w.heap.size < W2.heap.size:=by omega
 clear S;go_wp2_with fail;refine bodyPost_ret (v:=.tuple #[.agg #[.int .i64 k.gen,.string k.text,.int .i64 k.pGen,.string k.pText,.int .i64 r.n,.int .i64 r.owner],.bool true]) (by simp [results,Tryz.results22,go_sem,z0,z1,z2,z3,z4,z5,hsz]) rfl ⟨rfl,?_⟩
 exact ((((((hbe.setCell (p:=⟨w.heap.size + 1 + 1,0,none⟩) (by simp;omega) _).setCell (p:=⟨w.heap.size + 1 + 1,1,none⟩) (by simp;omega) _).setCell (p:=⟨w.heap.size + 1 + 1,2,none⟩) (by simp;omega) _).setCell (p:=⟨w.heap.size + 1 + 1,3,none⟩) (by simp;omega) _).setCell (p:=⟨w.heap.size + 1 + 1,4,none⟩) (by simp;omega) _).setCell (p:=⟨w.heap.size + 1 + 1,5,none⟩) (by simp;omega) _).alloc (by simp;omega) _
set_option maxRecDepth 100000 in
theorem Nw9 (k : Known) (r : Rec) (w : World) (hk : Ax9 k = true) (hr : Ak9 r = true) (hkd : r.kind = 3) (hlt : ¬ k.epoch < r.n) :
 Calls Tryz.prog 22 #[.agg (T9 k).toArray,.agg (M8 r).toArray] w (RetKB w ((k,false))):=by
 have q1 : (r.kind == 1) = false:=by simp;omega
 have q2 : (r.kind == 2) = false:=by simp;omega
 have q' : r.n ≤ k.epoch:=by omega
 clear hkd;have S : All (fun w' => Below w.heap.size w w'∧Hid (w'.heap[w.heap.size]? = some (.cells (T9 k).toArray 35 (0,0)))∧Hid (w'.heap[w.heap.size + 1]? = some (.cells (M8 r).toArray 29 (0,0)))∧Hid (w'.heap[w.heap.size + 1 + 1]? = some (.cells (T9 knownZero).toArray 35 (0,0)))∧w.heap.size + 1 + 1 < w'.heap.size) (((w.alloc (.cells #[.int .i64 k.gen,.string k.text,.int .i64 k.pGen,.string k.pText,.int .i64 k.epoch,.int .i64 k.owner] 35)).alloc (.cells #[.int .i64 r.kind,.int .i64 r.n,.int .i64 r.owner,.string r.text] 29)).alloc (.cells #[.int .i64 0,.string ⟨#[]⟩,.int .i64 0,.string ⟨#[]⟩,.int .i64 0,.int .i64 0] 35)):=by
  refine ⟨(((Below.refl _ _).alloc (Nat.le_refl _) _).alloc (by simp) _).alloc (by simp;omega) _,Lib.hid ?_,Lib.hid ?_,Lib.hid ?_,by simp⟩
  ·rw [Below.heap_alloc _ _ _ (by simp;omega),Below.heap_alloc _ _ _ (by simp)];exact heap_alloc_new w _
  ·rw [Below.heap_alloc _ _ _ (by simp)];exact G9 _ _ (by simp)
  ·exact G9 _ _ (by simp)
 show Calls Tryz.prog 22 #[.agg #[.int .i64 k.gen,.string k.text,.int .i64 k.pGen,.string k.pText,.int .i64 k.epoch,.int .i64 k.owner],.agg #[.int .i64 r.kind,.int .i64 r.n,.int .i64 r.owner,.string r.text]] w _
 unfold RetKB;go_enter Tryz.func22,Tryz.ntmps22
 go_wp2_with fail;generalize ((w.alloc (.cells #[.int .i64 k.gen,.string k.text,.int .i64 k.pGen,.string k.pText,.int .i64 k.epoch,.int .i64 k.owner] 35)).alloc (.cells #[.int .i64 r.kind,.int .i64 r.n,.int .i64 r.owner,.string r.text] 29)).alloc (.cells #[.int .i64 0,.string ⟨#[]⟩,.int .i64 0,.string ⟨#[]⟩,.int .i64 0,.int .i64 0] 35) = W at S ⊢;refine (Bs9 k _).mono ?_;rw [hk];rintro e W1 ⟨rfl,hb⟩;replace S:=S.later hb;clear hb;obtain ⟨c0,c1,c2,c3,c4,c5⟩:=I9 S.out.2.1.out;obtain ⟨d0,d1,d2,d3⟩:=J9 S.out.2.2.1.out;go_wp2_with fail;refine (By9 r _).mono ?_;rw [hr];rintro e W2 ⟨rfl,hb⟩;replace S:=S.later hb;clear hb;clear c0 c1 c2 c3 c4 c5 d0 d1 d2 d3;obtain ⟨c0,c1,c2,c3,c4,c5⟩:=I9 S.out.2.1.out;obtain ⟨d0,d1,d2,d3⟩:=J9 S.out.2.2.1.out;obtain ⟨z0,z1,z2,z3,z4,z5⟩:=I9 S.out.2.2.2.1.out;have zf:=fun i => C9 S.out.2.2.2.1.out i
 have hbe:=S.out.1;have hsz:=S.out.2.2.2.2;have hsz1 : w.heap.size + 1 < W2.heap.size:=by omega
 have hsz0 : w.heap.size < W2.heap.size:=by omega
 clear S;go_wp2_with fail;refine bodyPost_ret (v:=.tuple #[.agg #[.int .i64 k.gen,.string k.text,.int .i64 k.pGen,.string k.pText,.int .i64 k.epoch,.int .i64 k.owner],.bool false]) (by simp [results,Tryz.results22,go_sem,z0,z1,z2,z3,z4,z5,hsz]) rfl ⟨rfl,?_⟩
 exact ((((((hbe.setCell (p:=⟨w.heap.size + 1 + 1,0,none⟩) (by simp;omega) _).setCell (p:=⟨w.heap.size + 1 + 1,1,none⟩) (by simp;omega) _).setCell (p:=⟨w.heap.size + 1 + 1,2,none⟩) (by simp;omega) _).setCell (p:=⟨w.heap.size + 1 + 1,3,none⟩) (by simp;omega) _).setCell (p:=⟨w.heap.size + 1 + 1,4,none⟩) (by simp;omega) _).setCell (p:=⟨w.heap.size + 1 + 1,5,none⟩) (by simp;omega) _).alloc (by simp;omega) _
set_option maxRecDepth 100000 in
theorem Nx9 (k : Known) (r : Rec) (w : World) (hk : Ax9 k = true) (hr : Ak9 r = true) (hkd : r.kind = 2) (hlt : r.n = k.pGen) :
 Calls Tryz.prog 22 #[.agg (T9 k).toArray,.agg (M8 r).toArray] w (RetKB w ((⟨k.pGen,k.pText,0,⟨#[]⟩,k.epoch,k.owner⟩,true))):=by
 have q1 : (r.kind == 1) = false:=by simp;omega
 have q2 : (r.kind == 2) = true:=by simpa using hkd
 have q : (r.n != k.pGen) = false:=by simp;exact hlt
 clear hkd hlt;have S : All (fun w' => Below w.heap.size w w'∧Hid (w'.heap[w.heap.size]? = some (.cells (T9 k).toArray 35 (0,0)))∧Hid (w'.heap[w.heap.size + 1]? = some (.cells (M8 r).toArray 29 (0,0)))∧Hid (w'.heap[w.heap.size + 1 + 1]? = some (.cells (T9 knownZero).toArray 35 (0,0)))∧w.heap.size + 1 + 1 < w'.heap.size) (((w.alloc (.cells #[.int .i64 k.gen,.string k.text,.int .i64 k.pGen,.string k.pText,.int .i64 k.epoch,.int .i64 k.owner] 35)).alloc (.cells #[.int .i64 r.kind,.int .i64 r.n,.int .i64 r.owner,.string r.text] 29)).alloc (.cells #[.int .i64 0,.string ⟨#[]⟩,.int .i64 0,.string ⟨#[]⟩,.int .i64 0,.int .i64 0] 35)):=by
  refine ⟨(((Below.refl _ _).alloc (Nat.le_refl _) _).alloc (by simp) _).alloc (by simp;omega) _,Lib.hid ?_,Lib.hid ?_,Lib.hid ?_,by simp⟩
  ·rw [Below.heap_alloc _ _ _ (by simp;omega),Below.heap_alloc _ _ _ (by simp)];exact heap_alloc_new w _
  ·rw [Below.heap_alloc _ _ _ (by simp)];exact G9 _ _ (by simp)
  ·exact G9 _ _ (by simp)
 show Calls Tryz.prog 22 #[.agg #[.int .i64 k.gen,.string k.text,.int .i64 k.pGen,.string k.pText,.int .i64 k.epoch,.int .i64 k.owner],.agg #[.int .i64 r.kind,.int .i64 r.n,.int .i64 r.owner,.string r.text]] w _
 unfold RetKB;go_enter Tryz.func22,Tryz.ntmps22
 go_wp2_with fail;generalize ((w.alloc (.cells #[.int .i64 k.gen,.string k.text,.int .i64 k.pGen,.string k.pText,.int .i64 k.epoch,.int .i64 k.owner] 35)).alloc (.cells #[.int .i64 r.kind,.int .i64 r.n,.int .i64 r.owner,.string r.text] 29)).alloc (.cells #[.int .i64 0,.string ⟨#[]⟩,.int .i64 0,.string ⟨#[]⟩,.int .i64 0,.int .i64 0] 35) = W at S ⊢;refine (Bs9 k _).mono ?_;rw [hk];rintro e W1 ⟨rfl,hb⟩;replace S:=S.later hb;clear hb;obtain ⟨c0,c1,c2,c3,c4,c5⟩:=I9 S.out.2.1.out;obtain ⟨d0,d1,d2,d3⟩:=J9 S.out.2.2.1.out;go_wp2_with fail;refine (By9 r _).mono ?_;rw [hr];rintro e W2 ⟨rfl,hb⟩;replace S:=S.later hb;clear hb;clear c0 c1 c2 c3 c4 c5 d0 d1 d2 d3;obtain ⟨c0,c1,c2,c3,c4,c5⟩:=I9 S.out.2.1.out;obtain ⟨d0,d1,d2,d3⟩:=J9 S.out.2.2.1.out;obtain ⟨z0,z1,z2,z3,z4,z5⟩:=I9 S.out.2.2.2.1.out;have zf:=fun i => C9 S.out.2.2.2.1.out i
 have hbe:=S.out.1;have hsz:=S.out.2.2.2.2;have hsz1 : w.heap.size + 1 < W2.heap.size:=by omega
 have hsz0 : w.heap.size < W2.heap.size:=by omega
 clear S;go_wp2_with fail;refine bodyPost_ret (v:=.tuple #[.agg #[.int .i64 k.pGen,.string k.pText,.int .i64 0,.string ⟨#[]⟩,.int .i64 k.epoch,.int .i64 k.owner],.bool true]) (by simp [results,Tryz.results22,go_sem,z0,z1,z2,z3,z4,z5,hsz]) rfl ⟨rfl,?_⟩
 exact ((((((hbe.setCell (p:=⟨w.heap.size + 1 + 1,0,none⟩) (by simp;omega) _).setCell (p:=⟨w.heap.size + 1 + 1,1,none⟩) (by simp;omega) _).setCell (p:=⟨w.heap.size + 1 + 1,2,none⟩) (by simp;omega) _).setCell (p:=⟨w.heap.size + 1 + 1,3,none⟩) (by simp;omega) _).setCell (p:=⟨w.heap.size + 1 + 1,4,none⟩) (by simp;omega) _).setCell (p:=⟨w.heap.size + 1 + 1,5,none⟩) (by simp;omega) _).alloc (by simp;omega) _
set_option maxRecDepth 100000 in
theorem Ql9 (k : Known) (r : Rec) (w : World) (hk : Ax9 k = true) (hr : Ak9 r = true) (hkd : r.kind = 2) (hlt : ¬ r.n = k.pGen) :
 Calls Tryz.prog 22 #[.agg (T9 k).toArray,.agg (M8 r).toArray] w (RetKB w ((k,false))):=by
 have q1 : (r.kind == 1) = false:=by simp;omega
 have q2 : (r.kind == 2) = true:=by simpa using hkd
 have q : (r.n != k.pGen) = true:=by simp;exact hlt
 clear hkd hlt;have S : All (fun w' => Below w.heap.size w w'∧Hid (w'.heap[w.heap.size]? = some (.cells (T9 k).toArray 35 (0,0)))∧Hid (w'.heap[w.heap.size + 1]? = some (.cells (M8 r).toArray 29 (0,0)))∧Hid (w'.heap[w.heap.size + 1 + 1]? = some (.cells (T9 knownZero).toArray 35 (0,0)))∧w.heap.size + 1 + 1 < w'.heap.size) (((w.alloc (.cells #[.int .i64 k.gen,.string k.text,.int .i64 k.pGen,.string k.pText,.int .i64 k.epoch,.int .i64 k.owner] 35)).alloc (.cells #[.int .i64 r.kind,.int .i64 r.n,.int .i64 r.owner,.string r.text] 29)).alloc (.cells #[.int .i64 0,.string ⟨#[]⟩,.int .i64 0,.string ⟨#[]⟩,.int .i64 0,.int .i64 0] 35)):=by
  refine ⟨(((Below.refl _ _).alloc (Nat.le_refl _) _).alloc (by simp) _).alloc (by simp;omega) _,Lib.hid ?_,Lib.hid ?_,Lib.hid ?_,by simp⟩
  ·rw [Below.heap_alloc _ _ _ (by simp;omega),Below.heap_alloc _ _ _ (by simp)];exact heap_alloc_new w _
  ·rw [Below.heap_alloc _ _ _ (by simp)];exact G9 _ _ (by simp)
  ·exact G9 _ _ (by simp)
 show Calls Tryz.prog 22 #[.agg #[.int .i64 k.gen,.string k.text,.int .i64 k.pGen,.string k.pText,.int .i64 k.epoch,.int .i64 k.owner],.agg #[.int .i64 r.kind,.int .i64 r.n,.int .i64 r.owner,.string r.text]] w _
 unfold RetKB;go_enter Tryz.func22,Tryz.ntmps22
 go_wp2_with fail;generalize ((w.alloc (.cells #[.int .i64 k.gen,.string k.text,.int .i64 k.pGen,.string k.pText,.int .i64 k.epoch,.int .i64 k.owner] 35)).alloc (.cells #[.int .i64 r.kind,.int .i64 r.n,.int .i64 r.owner,.string r.text] 29)).alloc (.cells #[.int .i64 0,.string ⟨#[]⟩,.int .i64 0,.string ⟨#[]⟩,.int .i64 0,.int .i64 0] 35) = W at S ⊢;refine (Bs9 k _).mono ?_;rw [hk];rintro e W1 ⟨rfl,hb⟩;replace S:=S.later hb;clear hb;obtain ⟨c0,c1,c2,c3,c4,c5⟩:=I9 S.out.2.1.out;obtain ⟨d0,d1,d2,d3⟩:=J9 S.out.2.2.1.out;go_wp2_with fail;refine (By9 r _).mono ?_;rw [hr];rintro e W2 ⟨rfl,hb⟩;replace S:=S.later hb;clear hb;clear c0 c1 c2 c3 c4 c5 d0 d1 d2 d3;obtain ⟨c0,c1,c2,c3,c4,c5⟩:=I9 S.out.2.1.out;obtain ⟨d0,d1,d2,d3⟩:=J9 S.out.2.2.1.out;obtain ⟨z0,z1,z2,z3,z4,z5⟩:=I9 S.out.2.2.2.1.out;have zf:=fun i => C9 S.out.2.2.2.1.out i
 have hbe:=S.out.1;have hsz:=S.out.2.2.2.2;have hsz1 : w.heap.size + 1 < W2.heap.size:=by omega
 have hsz0 : w.heap.size < W2.heap.size:=by omega
 clear S;go_wp2_with fail;refine bodyPost_ret (v:=.tuple #[.agg #[.int .i64 k.gen,.string k.text,.int .i64 k.pGen,.string k.pText,.int .i64 k.epoch,.int .i64 k.owner],.bool false]) (by simp [results,Tryz.results22,go_sem,z0,z1,z2,z3,z4,z5,hsz]) rfl ⟨rfl,?_⟩
 exact ((((((hbe.setCell (p:=⟨w.heap.size + 1 + 1,0,none⟩) (by simp;omega) _).setCell (p:=⟨w.heap.size + 1 + 1,1,none⟩) (by simp;omega) _).setCell (p:=⟨w.heap.size + 1 + 1,2,none⟩) (by simp;omega) _).setCell (p:=⟨w.heap.size + 1 + 1,3,none⟩) (by simp;omega) _).setCell (p:=⟨w.heap.size + 1 + 1,4,none⟩) (by simp;omega) _).setCell (p:=⟨w.heap.size + 1 + 1,5,none⟩) (by simp;omega) _).alloc (by simp;omega) _
theorem Uv9 {r : Rec} (h : Ak9 r = true) : r.kind = 1 ∨ r.kind = 2 ∨ r.kind = 3:=by
 unfold Ak9 at h;by_cases h1 : r.kind = 1
 ·exact .inl h1
 ·by_cases h2 : r.kind = 2
  ·exact .inr (.inl h2)
  ·rw [if_neg h1,if_neg h2] at h
   simp only [Bool.and_eq_true,decide_eq_true_eq] at h;exact .inr (.inr h.2.1)
theorem Qm9 (k : Known) (r : Rec) (w : World) : Calls Tryz.prog 22 #[.agg (T9 k).toArray,.agg (M8 r).toArray] w (RetKB w (K8 k r)):=by
 unfold K8;cases hk : Ax9 k
 ·exact Zd9 k r w hk
 ·cases hr : Ak9 r
  ·exact Zc9 k r w hk hr
  ·rw [if_pos (show (true && true) = true from rfl)]
   by_cases k1 : r.kind = 1
   ·rw [if_pos k1]
    unfold Lj9;split
    ·exact Nv9 k r w hk hr k1 (by assumption)
    ·exact Qk9 k r w hk hr k1 (by assumption)
   ·rw [if_neg k1]
    by_cases k2 : r.kind = 2
    ·rw [if_pos k2]
     unfold Np9;split
     ·exact Nx9 k r w hk hr k2 (by assumption)
     ·exact Ql9 k r w hk hr k2 (by assumption)
    ·rw [if_neg k2]
     have k3 : r.kind = 3:=by rcases Uv9 hr with h | h | h <;> first | exact absurd h k1 | exact absurd h k2 | exact h
     unfold Iw9;split
     ·exact Mz9 k r w hk hr k3 (by assumption)
     ·exact Nw9 k r w hk hr k3 (by assumption)
theorem Et9 {w w1 w2 : World} {fp : List Nat} (hb : Below w.heap.size w w1) (ho : Rep.Only w1 w2 fp) (hf : ∀ a,a ∈ fp→w.heap.size ≤ a) : Below w.heap.size w w2:=
 ⟨ho.os.trans hb.os,ho.tape.trans hb.tape,ho.output.trans hb.output,Nat.le_trans hb.size ho.size,fun k hk => (ho.block k (Nat.lt_of_lt_of_le hk hb.size) (fun e => by have:=hf k e;omega)).trans (hb.block k hk)⟩
set_option maxRecDepth 100000 in
theorem Zf9 (k : Known) (r : Rec) (w : World) (hg : Given w) (hs1 : k.text.size ≤ 1048576) (hs2 : k.pText.size ≤ 1048576) (hs3 : r.text.size ≤ 1048576) (hk : Ax9 k = false) :
 Calls Tryz.prog 12 #[.agg (T9 k).toArray,.agg (M8 r).toArray] w (RetKB w ((k,false))):=by
 have S : All (fun w' => Below w.heap.size w w'∧Hid (w'.heap[w.heap.size]? = some (.cells (T9 k).toArray 35 (0,0)))∧Hid (w'.heap[w.heap.size + 1]? = some (.cells (M8 r).toArray 29 (0,0)))∧Hid (w'.heap[w.heap.size + 1 + 1]? = some (.cells (T9 knownZero).toArray 35 (0,0)))∧w.heap.size + 1 + 1 < w'.heap.size∧Given w') (((w.alloc (.cells #[.int .i64 k.gen,.string k.text,.int .i64 k.pGen,.string k.pText,.int .i64 k.epoch,.int .i64 k.owner] 35)).alloc (.cells #[.int .i64 r.kind,.int .i64 r.n,.int .i64 r.owner,.string r.text] 29)).alloc (.cells #[.int .i64 0,.string ⟨#[]⟩,.int .i64 0,.string ⟨#[]⟩,.int .i64 0,.int .i64 0] 35)):=by
  have hb : Below w.heap.size w (((w.alloc (.cells #[.int .i64 k.gen,.string k.text,.int .i64 k.pGen,.string k.pText,.int .i64 k.epoch,.int .i64 k.owner] 35)).alloc (.cells #[.int .i64 r.kind,.int .i64 r.n,.int .i64 r.owner,.string r.text] 29)).alloc (.cells #[.int .i64 0,.string ⟨#[]⟩,.int .i64 0,.string ⟨#[]⟩,.int .i64 0,.int .i64 0] 35)):=(((Below.refl _ _).alloc (Nat.le_refl _) _).alloc (by simp) _).alloc (by simp;omega) _
  refine ⟨hb,Lib.hid ?_,Lib.hid ?_,Lib.hid ?_,by simp,Keeps.keeps (F:=Given) hb hg⟩
  ·rw [Below.heap_alloc _ _ _ (by simp;omega),Below.heap_alloc _ _ _ (by simp)];exact heap_alloc_new w _
  ·rw [Below.heap_alloc _ _ _ (by simp)];exact G9 _ _ (by simp)
  ·exact G9 _ _ (by simp)
 clear hg;show Calls Tryz.prog 12 #[.agg #[.int .i64 k.gen,.string k.text,.int .i64 k.pGen,.string k.pText,.int .i64 k.epoch,.int .i64 k.owner],.agg #[.int .i64 r.kind,.int .i64 r.n,.int .i64 r.owner,.string r.text]] w _
 unfold RetKB;go_enter Tryz.func12,Tryz.ntmps12
 go_wp2_with fail;generalize ((w.alloc (.cells #[.int .i64 k.gen,.string k.text,.int .i64 k.pGen,.string k.pText,.int .i64 k.epoch,.int .i64 k.owner] 35)).alloc (.cells #[.int .i64 r.kind,.int .i64 r.n,.int .i64 r.owner,.string r.text] 29)).alloc (.cells #[.int .i64 0,.string ⟨#[]⟩,.int .i64 0,.string ⟨#[]⟩,.int .i64 0,.int .i64 0] 35) = W at S ⊢;refine (Bt9 k _ S.out.2.2.2.2.2 hs1 hs2).mono ?_;rw [hk];rintro e W1 ⟨rfl,hb⟩;replace S:=S.later hb;clear hb;obtain ⟨c0,c1,c2,c3,c4,c5⟩:=I9 S.out.2.1.out;obtain ⟨d0,d1,d2,d3⟩:=J9 S.out.2.2.1.out;obtain ⟨z0,z1,z2,z3,z4,z5⟩:=I9 S.out.2.2.2.1.out;have zf:=fun i => C9 S.out.2.2.2.1.out i
 have hbe:=S.out.1;have hsz:=S.out.2.2.2.2.1;have hsz1 : w.heap.size + 1 < W1.heap.size:=by omega
 have hsz0 : w.heap.size < W1.heap.size:=by omega
 clear S;go_wp2_with fail;refine bodyPost_ret (v:=.tuple #[.agg #[.int .i64 k.gen,.string k.text,.int .i64 k.pGen,.string k.pText,.int .i64 k.epoch,.int .i64 k.owner],.bool false]) (by simp [results,Tryz.results12,go_sem,z0,z1,z2,z3,z4,z5]) rfl ⟨rfl,?_⟩
 exact ((((((hbe.setCell (p:=⟨w.heap.size + 1 + 1,0,none⟩) (by simp;omega) _).setCell (p:=⟨w.heap.size + 1 + 1,1,none⟩) (by simp;omega) _).setCell (p:=⟨w.heap.size + 1 + 1,2,none⟩) (by simp;omega) _).setCell (p:=⟨w.heap.size + 1 + 1,3,none⟩) (by simp;omega) _).setCell (p:=⟨w.heap.size + 1 + 1,4,none⟩) (by simp;omega) _).setCell (p:=⟨w.heap.size + 1 + 1,5,none⟩) (by simp;omega) _)
set_option maxRecDepth 100000 in
theorem Ze9 (k : Known) (r : Rec) (w : World) (hg : Given w) (hs1 : k.text.size ≤ 1048576) (hs2 : k.pText.size ≤ 1048576) (hs3 : r.text.size ≤ 1048576) (hk : Ax9 k = true) (hr : Ak9 r = false) :
 Calls Tryz.prog 12 #[.agg (T9 k).toArray,.agg (M8 r).toArray] w (RetKB w ((k,false))):=by
 have S : All (fun w' => Below w.heap.size w w'∧Hid (w'.heap[w.heap.size]? = some (.cells (T9 k).toArray 35 (0,0)))∧Hid (w'.heap[w.heap.size + 1]? = some (.cells (M8 r).toArray 29 (0,0)))∧Hid (w'.heap[w.heap.size + 1 + 1]? = some (.cells (T9 knownZero).toArray 35 (0,0)))∧w.heap.size + 1 + 1 < w'.heap.size∧Given w') (((w.alloc (.cells #[.int .i64 k.gen,.string k.text,.int .i64 k.pGen,.string k.pText,.int .i64 k.epoch,.int .i64 k.owner] 35)).alloc (.cells #[.int .i64 r.kind,.int .i64 r.n,.int .i64 r.owner,.string r.text] 29)).alloc (.cells #[.int .i64 0,.string ⟨#[]⟩,.int .i64 0,.string ⟨#[]⟩,.int .i64 0,.int .i64 0] 35)):=by
  have hb : Below w.heap.size w (((w.alloc (.cells #[.int .i64 k.gen,.string k.text,.int .i64 k.pGen,.string k.pText,.int .i64 k.epoch,.int .i64 k.owner] 35)).alloc (.cells #[.int .i64 r.kind,.int .i64 r.n,.int .i64 r.owner,.string r.text] 29)).alloc (.cells #[.int .i64 0,.string ⟨#[]⟩,.int .i64 0,.string ⟨#[]⟩,.int .i64 0,.int .i64 0] 35)):=(((Below.refl _ _).alloc (Nat.le_refl _) _).alloc (by simp) _).alloc (by simp;omega) _
  refine ⟨hb,Lib.hid ?_,Lib.hid ?_,Lib.hid ?_,by simp,Keeps.keeps (F:=Given) hb hg⟩
  ·rw [Below.heap_alloc _ _ _ (by simp;omega),Below.heap_alloc _ _ _ (by simp)];exact heap_alloc_new w _
  ·rw [Below.heap_alloc _ _ _ (by simp)];exact G9 _ _ (by simp)
  ·exact G9 _ _ (by simp)
 clear hg;show Calls Tryz.prog 12 #[.agg #[.int .i64 k.gen,.string k.text,.int .i64 k.pGen,.string k.pText,.int .i64 k.epoch,.int .i64 k.owner],.agg #[.int .i64 r.kind,.int .i64 r.n,.int .i64 r.owner,.string r.text]] w _
 unfold RetKB;go_enter Tryz.func12,Tryz.ntmps12
 go_wp2_with fail;generalize ((w.alloc (.cells #[.int .i64 k.gen,.string k.text,.int .i64 k.pGen,.string k.pText,.int .i64 k.epoch,.int .i64 k.owner] 35)).alloc (.cells #[.int .i64 r.kind,.int .i64 r.n,.int .i64 r.owner,.string r.text] 29)).alloc (.cells #[.int .i64 0,.string ⟨#[]⟩,.int .i64 0,.string ⟨#[]⟩,.int .i64 0,.int .i64 0] 35) = W at S ⊢;refine (Bt9 k _ S.out.2.2.2.2.2 hs1 hs2).mono ?_;rw [hk];rintro e W1 ⟨rfl,hb⟩;replace S:=S.later hb;clear hb;obtain ⟨c0,c1,c2,c3,c4,c5⟩:=I9 S.out.2.1.out;obtain ⟨d0,d1,d2,d3⟩:=J9 S.out.2.2.1.out;go_wp2_with fail;refine (Cf9 r _ S.out.2.2.2.2.2 hs3).mono ?_;rw [hr];rintro e W2 ⟨rfl,hb⟩;replace S:=S.later hb;clear hb;clear c0 c1 c2 c3 c4 c5 d0 d1 d2 d3;obtain ⟨c0,c1,c2,c3,c4,c5⟩:=I9 S.out.2.1.out;obtain ⟨d0,d1,d2,d3⟩:=J9 S.out.2.2.1.out;obtain ⟨z0,z1,z2,z3,z4,z5⟩:=I9 S.out.2.2.2.1.out;have zf:=fun i => C9 S.out.2.2.2.1.out i
 have hbe:=S.out.1;have hsz:=S.out.2.2.2.2.1;have hsz1 : w.heap.size + 1 < W2.heap.size:=by omega
 have hsz0 : w.heap.size < W2.heap.size:=by omega
 clear S;go_wp2_with fail;refine bodyPost_ret (v:=.tuple #[.agg #[.int .i64 k.gen,.string k.text,.int .i64 k.pGen,.string k.pText,.int .i64 k.epoch,.int .i64 k.owner],.bool false]) (by simp [results,Tryz.results12,go_sem,z0,z1,z2,z3,z4,z5]) rfl ⟨rfl,?_⟩
 exact ((((((hbe.setCell (p:=⟨w.heap.size + 1 + 1,0,none⟩) (by simp;omega) _).setCell (p:=⟨w.heap.size + 1 + 1,1,none⟩) (by simp;omega) _).setCell (p:=⟨w.heap.size + 1 + 1,2,none⟩) (by simp;omega) _).setCell (p:=⟨w.heap.size + 1 + 1,3,none⟩) (by simp;omega) _).setCell (p:=⟨w.heap.size + 1 + 1,4,none⟩) (by simp;omega) _).setCell (p:=⟨w.heap.size + 1 + 1,5,none⟩) (by simp;omega) _)
set_option maxRecDepth 100000 in
theorem Kx9 (k : Known) (r : Rec) (w : World) (hg : Given w) (hs1 : k.text.size ≤ 1048576) (hs2 : k.pText.size ≤ 1048576) (hs3 : r.text.size ≤ 1048576) (hk : Ax9 k = true) (hr : Ak9 r = true) (hkd : r.kind = 1) (hlt : k.gen < r.n) :
 Calls Tryz.prog 12 #[.agg (T9 k).toArray,.agg (M8 r).toArray] w (RetKB w ((⟨k.gen,k.text,r.n,r.text,k.epoch,k.owner⟩,true))):=by
 have HK:=Lib.hid hkd;have HLT:=Lib.hid hlt;clear hkd hlt;have S : All (fun w' => Below w.heap.size w w'∧Hid (w'.heap[w.heap.size]? = some (.cells (T9 k).toArray 35 (0,0)))∧Hid (w'.heap[w.heap.size + 1]? = some (.cells (M8 r).toArray 29 (0,0)))∧Hid (w'.heap[w.heap.size + 1 + 1]? = some (.cells (T9 knownZero).toArray 35 (0,0)))∧w.heap.size + 1 + 1 < w'.heap.size∧Given w') (((w.alloc (.cells #[.int .i64 k.gen,.string k.text,.int .i64 k.pGen,.string k.pText,.int .i64 k.epoch,.int .i64 k.owner] 35)).alloc (.cells #[.int .i64 r.kind,.int .i64 r.n,.int .i64 r.owner,.string r.text] 29)).alloc (.cells #[.int .i64 0,.string ⟨#[]⟩,.int .i64 0,.string ⟨#[]⟩,.int .i64 0,.int .i64 0] 35)):=by
  have hb : Below w.heap.size w (((w.alloc (.cells #[.int .i64 k.gen,.string k.text,.int .i64 k.pGen,.string k.pText,.int .i64 k.epoch,.int .i64 k.owner] 35)).alloc (.cells #[.int .i64 r.kind,.int .i64 r.n,.int .i64 r.owner,.string r.text] 29)).alloc (.cells #[.int .i64 0,.string ⟨#[]⟩,.int .i64 0,.string ⟨#[]⟩,.int .i64 0,.int .i64 0] 35)):=(((Below.refl _ _).alloc (Nat.le_refl _) _).alloc (by simp) _).alloc (by simp;omega) _
  refine ⟨hb,Lib.hid ?_,Lib.hid ?_,Lib.hid ?_,by simp,Keeps.keeps (F:=Given) hb hg⟩
  ·rw [Below.heap_alloc _ _ _ (by simp;omega),Below.heap_alloc _ _ _ (by simp)];exact heap_alloc_new w _
  ·rw [Below.heap_alloc _ _ _ (by simp)];exact G9 _ _ (by simp)
  ·exact G9 _ _ (by simp)
 clear hg;show Calls Tryz.prog 12 #[.agg #[.int .i64 k.gen,.string k.text,.int .i64 k.pGen,.string k.pText,.int .i64 k.epoch,.int .i64 k.owner],.agg #[.int .i64 r.kind,.int .i64 r.n,.int .i64 r.owner,.string r.text]] w _
 unfold RetKB;go_enter Tryz.func12,Tryz.ntmps12
 go_wp2_with fail;generalize ((w.alloc (.cells #[.int .i64 k.gen,.string k.text,.int .i64 k.pGen,.string k.pText,.int .i64 k.epoch,.int .i64 k.owner] 35)).alloc (.cells #[.int .i64 r.kind,.int .i64 r.n,.int .i64 r.owner,.string r.text] 29)).alloc (.cells #[.int .i64 0,.string ⟨#[]⟩,.int .i64 0,.string ⟨#[]⟩,.int .i64 0,.int .i64 0] 35) = W at S ⊢;refine (Bt9 k _ S.out.2.2.2.2.2 hs1 hs2).mono ?_;rw [hk];rintro e W1 ⟨rfl,hb⟩;replace S:=S.later hb;clear hb;obtain ⟨c0,c1,c2,c3,c4,c5⟩:=I9 S.out.2.1.out;obtain ⟨d0,d1,d2,d3⟩:=J9 S.out.2.2.1.out;go_wp2_with fail;refine (Cf9 r _ S.out.2.2.2.2.2 hs3).mono ?_;rw [hr];rintro e W2 ⟨rfl,hb⟩;replace S:=S.later hb;clear hb;clear c0 c1 c2 c3 c4 c5 d0 d1 d2 d3;obtain ⟨c0,c1,c2,c3,c4,c5⟩:=I9 S.out.2.1.out;obtain ⟨d0,d1,d2,d3⟩:=J9 S.out.2.2.1.out;go_wp2_with fail;rw [HK.out];refine (Xw9 _).mono ?_;rintro e W3 ⟨rfl,hb⟩;replace S:=S.later hb;clear hb;clear c0 c1 c2 c3 c4 c5 d0 d1 d2 d3;unfold Vq9;obtain ⟨d0,d1,d2,d3⟩:=J9 S.out.2.2.1.out;have hsz:=S.out.2.2.2.2.1;have hsz1 : w.heap.size + 1 < W3.heap.size:=by omega
 have hsz0 : w.heap.size < W3.heap.size:=by omega
 go_wp2_with fail;have SA:=S.alloc (.cells #[.int .i64 1,.int .i64 0,.bool true,.func (.func 85) #[] #[]] 78);generalize hWA : W3.alloc (.cells #[.int .i64 1,.int .i64 0,.bool true,.func (.func 85) #[] #[]] 78) = WA at SA ⊢;clear hWA hsz hsz1 hsz0 d0 d1 d2 d3;refine (Vb9 w.heap.size k r WA SA.out.2.1.out (by have:=HLT.out;first | exact this | omega)).mono ?_
 rintro e W4 ⟨rfl,hv4,ho⟩;have hbe:=Et9 SA.out.1 ho (by simp)
 have hV4:=Lib.hid ((ho.block (w.heap.size + 1 + 1) SA.out.2.2.2.2.1 (by rw [List.mem_singleton];omega)).trans SA.out.2.2.2.1.out)
 have hsz:=Nat.lt_of_lt_of_le SA.out.2.2.2.2.1 ho.size;have hsz1 : w.heap.size + 1 < W4.heap.size:=by omega
 have hsz0 : w.heap.size < W4.heap.size:=by omega
 obtain ⟨c0,c1,c2,c3,c4,c5⟩:=I9 hv4;obtain ⟨z0,z1,z2,z3,z4,z5⟩:=I9 hV4.out;have zf:=fun i => C9 hV4.out i
 clear S SA ho hv4;go_wp2_with fail;refine bodyPost_ret (v:=.tuple #[.agg #[.int .i64 k.gen,.string k.text,.int .i64 r.n,.string r.text,.int .i64 k.epoch,.int .i64 k.owner],.bool true]) (by simp [results,Tryz.results12,go_sem,z0,z1,z2,z3,z4,z5]) rfl ⟨rfl,?_⟩
 exact ((((((hbe.setCell (p:=⟨w.heap.size + 1 + 1,0,none⟩) (by simp;omega) _).setCell (p:=⟨w.heap.size + 1 + 1,1,none⟩) (by simp;omega) _).setCell (p:=⟨w.heap.size + 1 + 1,2,none⟩) (by simp;omega) _).setCell (p:=⟨w.heap.size + 1 + 1,3,none⟩) (by simp;omega) _).setCell (p:=⟨w.heap.size + 1 + 1,4,none⟩) (by simp;omega) _).setCell (p:=⟨w.heap.size + 1 + 1,5,none⟩) (by simp;omega) _)
set_option maxRecDepth 100000 in
theorem Mc9 (k : Known) (r : Rec) (w : World) (hg : Given w) (hs1 : k.text.size ≤ 1048576) (hs2 : k.pText.size ≤ 1048576) (hs3 : r.text.size ≤ 1048576) (hk : Ax9 k = true) (hr : Ak9 r = true) (hkd : r.kind = 1) (hlt : ¬ k.gen < r.n) :
 Calls Tryz.prog 12 #[.agg (T9 k).toArray,.agg (M8 r).toArray] w (RetKB w ((k,false))):=by
 have HK:=Lib.hid hkd;have HLT:=Lib.hid hlt;clear hkd hlt;have S : All (fun w' => Below w.heap.size w w'∧Hid (w'.heap[w.heap.size]? = some (.cells (T9 k).toArray 35 (0,0)))∧Hid (w'.heap[w.heap.size + 1]? = some (.cells (M8 r).toArray 29 (0,0)))∧Hid (w'.heap[w.heap.size + 1 + 1]? = some (.cells (T9 knownZero).toArray 35 (0,0)))∧w.heap.size + 1 + 1 < w'.heap.size∧Given w') (((w.alloc (.cells #[.int .i64 k.gen,.string k.text,.int .i64 k.pGen,.string k.pText,.int .i64 k.epoch,.int .i64 k.owner] 35)).alloc (.cells #[.int .i64 r.kind,.int .i64 r.n,.int .i64 r.owner,.string r.text] 29)).alloc (.cells #[.int .i64 0,.string ⟨#[]⟩,.int .i64 0,.string ⟨#[]⟩,.int .i64 0,.int .i64 0] 35)):=by
  have hb : Below w.heap.size w (((w.alloc (.cells #[.int .i64 k.gen,.string k.text,.int .i64 k.pGen,.string k.pText,.int .i64 k.epoch,.int .i64 k.owner] 35)).alloc (.cells #[.int .i64 r.kind,.int .i64 r.n,.int .i64 r.owner,.string r.text] 29)).alloc (.cells #[.int .i64 0,.string ⟨#[]⟩,.int .i64 0,.string ⟨#[]⟩,.int .i64 0,.int .i64 0] 35)):=(((Below.refl _ _).alloc (Nat.le_refl _) _).alloc (by simp) _).alloc (by simp;omega) _
  refine ⟨hb,Lib.hid ?_,Lib.hid ?_,Lib.hid ?_,by simp,Keeps.keeps (F:=Given) hb hg⟩
  ·rw [Below.heap_alloc _ _ _ (by simp;omega),Below.heap_alloc _ _ _ (by simp)];exact heap_alloc_new w _
  ·rw [Below.heap_alloc _ _ _ (by simp)];exact G9 _ _ (by simp)
  ·exact G9 _ _ (by simp)
 clear hg;show Calls Tryz.prog 12 #[.agg #[.int .i64 k.gen,.string k.text,.int .i64 k.pGen,.string k.pText,.int .i64 k.epoch,.int .i64 k.owner],.agg #[.int .i64 r.kind,.int .i64 r.n,.int .i64 r.owner,.string r.text]] w _
 unfold RetKB;go_enter Tryz.func12,Tryz.ntmps12
 go_wp2_with fail;generalize ((w.alloc (.cells #[.int .i64 k.gen,.string k.text,.int .i64 k.pGen,.string k.pText,.int .i64 k.epoch,.int .i64 k.owner] 35)).alloc (.cells #[.int .i64 r.kind,.int .i64 r.n,.int .i64 r.owner,.string r.text] 29)).alloc (.cells #[.int .i64 0,.string ⟨#[]⟩,.int .i64 0,.string ⟨#[]⟩,.int .i64 0,.int .i64 0] 35) = W at S ⊢;refine (Bt9 k _ S.out.2.2.2.2.2 hs1 hs2).mono ?_;rw [hk];rintro e W1 ⟨rfl,hb⟩;replace S:=S.later hb;clear hb;obtain ⟨c0,c1,c2,c3,c4,c5⟩:=I9 S.out.2.1.out;obtain ⟨d0,d1,d2,d3⟩:=J9 S.out.2.2.1.out;go_wp2_with fail;refine (Cf9 r _ S.out.2.2.2.2.2 hs3).mono ?_;rw [hr];rintro e W2 ⟨rfl,hb⟩;replace S:=S.later hb;clear hb;clear c0 c1 c2 c3 c4 c5 d0 d1 d2 d3;obtain ⟨c0,c1,c2,c3,c4,c5⟩:=I9 S.out.2.1.out;obtain ⟨d0,d1,d2,d3⟩:=J9 S.out.2.2.1.out;go_wp2_with fail;rw [HK.out];refine (Xw9 _).mono ?_;rintro e W3 ⟨rfl,hb⟩;replace S:=S.later hb;clear hb;clear c0 c1 c2 c3 c4 c5 d0 d1 d2 d3;unfold Vq9;obtain ⟨d0,d1,d2,d3⟩:=J9 S.out.2.2.1.out;have hsz:=S.out.2.2.2.2.1;have hsz1 : w.heap.size + 1 < W3.heap.size:=by omega
 have hsz0 : w.heap.size < W3.heap.size:=by omega
 go_wp2_with fail;have SA:=S.alloc (.cells #[.int .i64 1,.int .i64 0,.bool true,.func (.func 85) #[] #[]] 78);generalize hWA : W3.alloc (.cells #[.int .i64 1,.int .i64 0,.bool true,.func (.func 85) #[] #[]] 78) = WA at SA ⊢;clear hWA hsz hsz1 hsz0 d0 d1 d2 d3;refine (Xj9 w.heap.size k r WA SA.out.2.1.out (by have:=HLT.out;first | exact this | omega)).mono ?_
 rintro e W4 ⟨rfl,hv4,ho⟩;have hbe:=Et9 SA.out.1 ho (by simp)
 have hV4:=Lib.hid ((ho.block (w.heap.size + 1 + 1) SA.out.2.2.2.2.1 (by rw [List.mem_singleton];omega)).trans SA.out.2.2.2.1.out)
 have hsz:=Nat.lt_of_lt_of_le SA.out.2.2.2.2.1 ho.size;have hsz1 : w.heap.size + 1 < W4.heap.size:=by omega
 have hsz0 : w.heap.size < W4.heap.size:=by omega
 obtain ⟨c0,c1,c2,c3,c4,c5⟩:=I9 hv4;obtain ⟨z0,z1,z2,z3,z4,z5⟩:=I9 hV4.out;have zf:=fun i => C9 hV4.out i
 clear S SA ho hv4;go_wp2_with fail;refine bodyPost_ret (v:=.tuple #[.agg #[.int .i64 k.gen,.string k.text,.int .i64 k.pGen,.string k.pText,.int .i64 k.epoch,.int .i64 k.owner],.bool false]) (by simp [results,Tryz.results12,go_sem,z0,z1,z2,z3,z4,z5]) rfl ⟨rfl,?_⟩
 exact ((((((hbe.setCell (p:=⟨w.heap.size + 1 + 1,0,none⟩) (by simp;omega) _).setCell (p:=⟨w.heap.size + 1 + 1,1,none⟩) (by simp;omega) _).setCell (p:=⟨w.heap.size + 1 + 1,2,none⟩) (by simp;omega) _).setCell (p:=⟨w.heap.size + 1 + 1,3,none⟩) (by simp;omega) _).setCell (p:=⟨w.heap.size + 1 + 1,4,none⟩) (by simp;omega) _).setCell (p:=⟨w.heap.size + 1 + 1,5,none⟩) (by simp;omega) _)
set_option maxRecDepth 100000 in
theorem Nz9 (k : Known) (r : Rec) (w : World) (hg : Given w) (hs1 : k.text.size ≤ 1048576) (hs2 : k.pText.size ≤ 1048576) (hs3 : r.text.size ≤ 1048576) (hk : Ax9 k = true) (hr : Ak9 r = true) (hkd : r.kind = 2) (hlt : r.n = k.pGen) :
 Calls Tryz.prog 12 #[.agg (T9 k).toArray,.agg (M8 r).toArray] w (RetKB w ((⟨k.pGen,k.pText,0,⟨#[]⟩,k.epoch,k.owner⟩,true))):=by
 have HK:=Lib.hid hkd;have HLT:=Lib.hid hlt;clear hkd hlt;have S : All (fun w' => Below w.heap.size w w'∧Hid (w'.heap[w.heap.size]? = some (.cells (T9 k).toArray 35 (0,0)))∧Hid (w'.heap[w.heap.size + 1]? = some (.cells (M8 r).toArray 29 (0,0)))∧Hid (w'.heap[w.heap.size + 1 + 1]? = some (.cells (T9 knownZero).toArray 35 (0,0)))∧w.heap.size + 1 + 1 < w'.heap.size∧Given w') (((w.alloc (.cells #[.int .i64 k.gen,.string k.text,.int .i64 k.pGen,.string k.pText,.int .i64 k.epoch,.int .i64 k.owner] 35)).alloc (.cells #[.int .i64 r.kind,.int .i64 r.n,.int .i64 r.owner,.string r.text] 29)).alloc (.cells #[.int .i64 0,.string ⟨#[]⟩,.int .i64 0,.string ⟨#[]⟩,.int .i64 0,.int .i64 0] 35)):=by
  have hb : Below w.heap.size w (((w.alloc (.cells #[.int .i64 k.gen,.string k.text,.int .i64 k.pGen,.string k.pText,.int .i64 k.epoch,.int .i64 k.owner] 35)).alloc (.cells #[.int .i64 r.kind,.int .i64 r.n,.int .i64 r.owner,.string r.text] 29)).alloc (.cells #[.int .i64 0,.string ⟨#[]⟩,.int .i64 0,.string ⟨#[]⟩,.int .i64 0,.int .i64 0] 35)):=(((Below.refl _ _).alloc (Nat.le_refl _) _).alloc (by simp) _).alloc (by simp;omega) _
  refine ⟨hb,Lib.hid ?_,Lib.hid ?_,Lib.hid ?_,by simp,Keeps.keeps (F:=Given) hb hg⟩
  ·rw [Below.heap_alloc _ _ _ (by simp;omega),Below.heap_alloc _ _ _ (by simp)];exact heap_alloc_new w _
  ·rw [Below.heap_alloc _ _ _ (by simp)];exact G9 _ _ (by simp)
  ·exact G9 _ _ (by simp)
 clear hg;show Calls Tryz.prog 12 #[.agg #[.int .i64 k.gen,.string k.text,.int .i64 k.pGen,.string k.pText,.int .i64 k.epoch,.int .i64 k.owner],.agg #[.int .i64 r.kind,.int .i64 r.n,.int .i64 r.owner,.string r.text]] w _
 unfold RetKB;go_enter Tryz.func12,Tryz.ntmps12
 go_wp2_with fail;generalize ((w.alloc (.cells #[.int .i64 k.gen,.string k.text,.int .i64 k.pGen,.string k.pText,.int .i64 k.epoch,.int .i64 k.owner] 35)).alloc (.cells #[.int .i64 r.kind,.int .i64 r.n,.int .i64 r.owner,.string r.text] 29)).alloc (.cells #[.int .i64 0,.string ⟨#[]⟩,.int .i64 0,.string ⟨#[]⟩,.int .i64 0,.int .i64 0] 35) = W at S ⊢;refine (Bt9 k _ S.out.2.2.2.2.2 hs1 hs2).mono ?_;rw [hk];rintro e W1 ⟨rfl,hb⟩;replace S:=S.later hb;clear hb;obtain ⟨c0,c1,c2,c3,c4,c5⟩:=I9 S.out.2.1.out;obtain ⟨d0,d1,d2,d3⟩:=J9 S.out.2.2.1.out;go_wp2_with fail;refine (Cf9 r _ S.out.2.2.2.2.2 hs3).mono ?_;rw [hr];rintro e W2 ⟨rfl,hb⟩;replace S:=S.later hb;clear hb;clear c0 c1 c2 c3 c4 c5 d0 d1 d2 d3;obtain ⟨c0,c1,c2,c3,c4,c5⟩:=I9 S.out.2.1.out;obtain ⟨d0,d1,d2,d3⟩:=J9 S.out.2.2.1.out;go_wp2_with fail;rw [HK.out];refine (Xv9 _).mono ?_;rintro e W3 ⟨rfl,hb⟩;replace S:=S.later hb;clear hb;clear c0 c1 c2 c3 c4 c5 d0 d1 d2 d3;unfold Lr9;obtain ⟨d0,d1,d2,d3⟩:=J9 S.out.2.2.1.out;have hsz:=S.out.2.2.2.2.1;have hsz1 : w.heap.size + 1 < W3.heap.size:=by omega
 have hsz0 : w.heap.size < W3.heap.size:=by omega
 go_wp2_with fail;have SA:=S.alloc (.cells #[.int .i64 2,.int .i64 0,.bool false,.func (.func 86) #[] #[]] 78);generalize hWA : W3.alloc (.cells #[.int .i64 2,.int .i64 0,.bool false,.func (.func 86) #[] #[]] 78) = WA at SA ⊢;clear hWA hsz hsz1 hsz0 d0 d1 d2 d3;refine (Dw8 w.heap.size k r WA SA.out.2.1.out (by have:=HLT.out;first | exact this | omega)).mono ?_
 rintro e W4 ⟨rfl,hv4,ho⟩;have hbe:=Et9 SA.out.1 ho (by simp)
 have hV4:=Lib.hid ((ho.block (w.heap.size + 1 + 1) SA.out.2.2.2.2.1 (by rw [List.mem_singleton];omega)).trans SA.out.2.2.2.1.out)
 have hsz:=Nat.lt_of_lt_of_le SA.out.2.2.2.2.1 ho.size;have hsz1 : w.heap.size + 1 < W4.heap.size:=by omega
 have hsz0 : w.heap.size < W4.heap.size:=by omega
 obtain ⟨c0,c1,c2,c3,c4,c5⟩:=I9 hv4;obtain ⟨z0,z1,z2,z3,z4,z5⟩:=I9 hV4.out;have zf:=fun i => C9 hV4.out i
 clear S SA ho hv4;go_wp2_with fail;refine bodyPost_ret (v:=.tuple #[.agg #[.int .i64 k.pGen,.string k.pText,.int .i64 0,.string ⟨#[]⟩,.int .i64 k.epoch,.int .i64 k.owner],.bool true]) (by simp [results,Tryz.results12,go_sem,z0,z1,z2,z3,z4,z5]) rfl ⟨rfl,?_⟩
 exact ((((((hbe.setCell (p:=⟨w.heap.size + 1 + 1,0,none⟩) (by simp;omega) _).setCell (p:=⟨w.heap.size + 1 + 1,1,none⟩) (by simp;omega) _).setCell (p:=⟨w.heap.size + 1 + 1,2,none⟩) (by simp;omega) _).setCell (p:=⟨w.heap.size + 1 + 1,3,none⟩) (by simp;omega) _).setCell (p:=⟨w.heap.size + 1 + 1,4,none⟩) (by simp;omega) _).setCell (p:=⟨w.heap.size + 1 + 1,5,none⟩) (by simp;omega) _)
set_option maxRecDepth 100000 in
theorem Qn9 (k : Known) (r : Rec) (w : World) (hg : Given w) (hs1 : k.text.size ≤ 1048576) (hs2 : k.pText.size ≤ 1048576) (hs3 : r.text.size ≤ 1048576) (hk : Ax9 k = true) (hr : Ak9 r = true) (hkd : r.kind = 2) (hlt : ¬ r.n = k.pGen) :
 Calls Tryz.prog 12 #[.agg (T9 k).toArray,.agg (M8 r).toArray] w (RetKB w ((k,false))):=by
 have HK:=Lib.hid hkd;have HLT:=Lib.hid hlt;clear hkd hlt;have S : All (fun w' => Below w.heap.size w w'∧Hid (w'.heap[w.heap.size]? = some (.cells (T9 k).toArray 35 (0,0)))∧Hid (w'.heap[w.heap.size + 1]? = some (.cells (M8 r).toArray 29 (0,0)))∧Hid (w'.heap[w.heap.size + 1 + 1]? = some (.cells (T9 knownZero).toArray 35 (0,0)))∧w.heap.size + 1 + 1 < w'.heap.size∧Given w') (((w.alloc (.cells #[.int .i64 k.gen,.string k.text,.int .i64 k.pGen,.string k.pText,.int .i64 k.epoch,.int .i64 k.owner] 35)).alloc (.cells #[.int .i64 r.kind,.int .i64 r.n,.int .i64 r.owner,.string r.text] 29)).alloc (.cells #[.int .i64 0,.string ⟨#[]⟩,.int .i64 0,.string ⟨#[]⟩,.int .i64 0,.int .i64 0] 35)):=by
  have hb : Below w.heap.size w (((w.alloc (.cells #[.int .i64 k.gen,.string k.text,.int .i64 k.pGen,.string k.pText,.int .i64 k.epoch,.int .i64 k.owner] 35)).alloc (.cells #[.int .i64 r.kind,.int .i64 r.n,.int .i64 r.owner,.string r.text] 29)).alloc (.cells #[.int .i64 0,.string ⟨#[]⟩,.int .i64 0,.string ⟨#[]⟩,.int .i64 0,.int .i64 0] 35)):=(((Below.refl _ _).alloc (Nat.le_refl _) _).alloc (by simp) _).alloc (by simp;omega) _
  refine ⟨hb,Lib.hid ?_,Lib.hid ?_,Lib.hid ?_,by simp,Keeps.keeps (F:=Given) hb hg⟩
  ·rw [Below.heap_alloc _ _ _ (by simp;omega),Below.heap_alloc _ _ _ (by simp)];exact heap_alloc_new w _
  ·rw [Below.heap_alloc _ _ _ (by simp)];exact G9 _ _ (by simp)
  ·exact G9 _ _ (by simp)
 clear hg;show Calls Tryz.prog 12 #[.agg #[.int .i64 k.gen,.string k.text,.int .i64 k.pGen,.string k.pText,.int .i64 k.epoch,.int .i64 k.owner],.agg #[.int .i64 r.kind,.int .i64 r.n,.int .i64 r.owner,.string r.text]] w _
 unfold RetKB;go_enter Tryz.func12,Tryz.ntmps12
 go_wp2_with fail;generalize ((w.alloc (.cells #[.int .i64 k.gen,.string k.text,.int .i64 k.pGen,.string k.pText,.int .i64 k.epoch,.int .i64 k.owner] 35)).alloc (.cells #[.int .i64 r.kind,.int .i64 r.n,.int .i64 r.owner,.string r.text] 29)).alloc (.cells #[.int .i64 0,.string ⟨#[]⟩,.int .i64 0,.string ⟨#[]⟩,.int .i64 0,.int .i64 0] 35) = W at S ⊢;refine (Bt9 k _ S.out.2.2.2.2.2 hs1 hs2).mono ?_;rw [hk];rintro e W1 ⟨rfl,hb⟩;replace S:=S.later hb;clear hb;obtain ⟨c0,c1,c2,c3,c4,c5⟩:=I9 S.out.2.1.out;obtain ⟨d0,d1,d2,d3⟩:=J9 S.out.2.2.1.out;go_wp2_with fail;refine (Cf9 r _ S.out.2.2.2.2.2 hs3).mono ?_;rw [hr];rintro e W2 ⟨rfl,hb⟩;replace S:=S.later hb;clear hb;clear c0 c1 c2 c3 c4 c5 d0 d1 d2 d3;obtain ⟨c0,c1,c2,c3,c4,c5⟩:=I9 S.out.2.1.out;obtain ⟨d0,d1,d2,d3⟩:=J9 S.out.2.2.1.out;go_wp2_with fail;rw [HK.out];refine (Xv9 _).mono ?_;rintro e W3 ⟨rfl,hb⟩;replace S:=S.later hb;clear hb;clear c0 c1 c2 c3 c4 c5 d0 d1 d2 d3;unfold Lr9;obtain ⟨d0,d1,d2,d3⟩:=J9 S.out.2.2.1.out;have hsz:=S.out.2.2.2.2.1;have hsz1 : w.heap.size + 1 < W3.heap.size:=by omega
 have hsz0 : w.heap.size < W3.heap.size:=by omega
 go_wp2_with fail;have SA:=S.alloc (.cells #[.int .i64 2,.int .i64 0,.bool false,.func (.func 86) #[] #[]] 78);generalize hWA : W3.alloc (.cells #[.int .i64 2,.int .i64 0,.bool false,.func (.func 86) #[] #[]] 78) = WA at SA ⊢;clear hWA hsz hsz1 hsz0 d0 d1 d2 d3;refine (comm_no w.heap.size k r WA SA.out.2.1.out (by have:=HLT.out;first | exact this | omega)).mono ?_
 rintro e W4 ⟨rfl,hv4,ho⟩;have hbe:=Et9 SA.out.1 ho (by simp)
 have hV4:=Lib.hid ((ho.block (w.heap.size + 1 + 1) SA.out.2.2.2.2.1 (by rw [List.mem_singleton];omega)).trans SA.out.2.2.2.1.out)
 have hsz:=Nat.lt_of_lt_of_le SA.out.2.2.2.2.1 ho.size;have hsz1 : w.heap.size + 1 < W4.heap.size:=by omega
 have hsz0 : w.heap.size < W4.heap.size:=by omega
 obtain ⟨c0,c1,c2,c3,c4,c5⟩:=I9 hv4;obtain ⟨z0,z1,z2,z3,z4,z5⟩:=I9 hV4.out;have zf:=fun i => C9 hV4.out i
 clear S SA ho hv4;go_wp2_with fail;refine bodyPost_ret (v:=.tuple #[.agg #[.int .i64 k.gen,.string k.text,.int .i64 k.pGen,.string k.pText,.int .i64 k.epoch,.int .i64 k.owner],.bool false]) (by simp [results,Tryz.results12,go_sem,z0,z1,z2,z3,z4,z5]) rfl ⟨rfl,?_⟩
 exact ((((((hbe.setCell (p:=⟨w.heap.size + 1 + 1,0,none⟩) (by simp;omega) _).setCell (p:=⟨w.heap.size + 1 + 1,1,none⟩) (by simp;omega) _).setCell (p:=⟨w.heap.size + 1 + 1,2,none⟩) (by simp;omega) _).setCell (p:=⟨w.heap.size + 1 + 1,3,none⟩) (by simp;omega) _).setCell (p:=⟨w.heap.size + 1 + 1,4,none⟩) (by simp;omega) _).setCell (p:=⟨w.heap.size + 1 + 1,5,none⟩) (by simp;omega) _)
set_option maxRecDepth 100000 in
theorem Na9 (k : Known) (r : Rec) (w : World) (hg : Given w) (hs1 : k.text.size ≤ 1048576) (hs2 : k.pText.size ≤ 1048576) (hs3 : r.text.size ≤ 1048576) (hk : Ax9 k = true) (hr : Ak9 r = true) (hkd : r.kind = 3) (hlt : k.epoch < r.n) :
 Calls Tryz.prog 12 #[.agg (T9 k).toArray,.agg (M8 r).toArray] w (RetKB w ((⟨k.gen,k.text,k.pGen,k.pText,r.n,r.owner⟩,true))):=by
 have HK:=Lib.hid hkd;have HLT:=Lib.hid hlt;clear hkd hlt;have S : All (fun w' => Below w.heap.size w w'∧Hid (w'.heap[w.heap.size]? = some (.cells (T9 k).toArray 35 (0,0)))∧Hid (w'.heap[w.heap.size + 1]? = some (.cells (M8 r).toArray 29 (0,0)))∧Hid (w'.heap[w.heap.size + 1 + 1]? = some (.cells (T9 knownZero).toArray 35 (0,0)))∧w.heap.size + 1 + 1 < w'.heap.size∧Given w') (((w.alloc (.cells #[.int .i64 k.gen,.string k.text,.int .i64 k.pGen,.string k.pText,.int .i64 k.epoch,.int .i64 k.owner] 35)).alloc (.cells #[.int .i64 r.kind,.int .i64 r.n,.int .i64 r.owner,.string r.text] 29)).alloc (.cells #[.int .i64 0,.string ⟨#[]⟩,.int .i64 0,.string ⟨#[]⟩,.int .i64 0,.int .i64 0] 35)):=by
  have hb : Below w.heap.size w (((w.alloc (.cells #[.int .i64 k.gen,.string k.text,.int .i64 k.pGen,.string k.pText,.int .i64 k.epoch,.int .i64 k.owner] 35)).alloc (.cells #[.int .i64 r.kind,.int .i64 r.n,.int .i64 r.owner,.string r.text] 29)).alloc (.cells #[.int .i64 0,.string ⟨#[]⟩,.int .i64 0,.string ⟨#[]⟩,.int .i64 0,.int .i64 0] 35)):=(((Below.refl _ _).alloc (Nat.le_refl _) _).alloc (by simp) _).alloc (by simp;omega) _
  refine ⟨hb,Lib.hid ?_,Lib.hid ?_,Lib.hid ?_,by simp,Keeps.keeps (F:=Given) hb hg⟩
  ·rw [Below.heap_alloc _ _ _ (by simp;omega),Below.heap_alloc _ _ _ (by simp)];exact heap_alloc_new w _
  ·rw [Below.heap_alloc _ _ _ (by simp)];exact G9 _ _ (by simp)
  ·exact G9 _ _ (by simp)
 clear hg;show Calls Tryz.prog 12 #[.agg #[.int .i64 k.gen,.string k.text,.int .i64 k.pGen,.string k.pText,.int .i64 k.epoch,.int .i64 k.owner],.agg #[.int .i64 r.kind,.int .i64 r.n,.int .i64 r.owner,.string r.text]] w _
 unfold RetKB;go_enter Tryz.func12,Tryz.ntmps12
 go_wp2_with fail;generalize ((w.alloc (.cells #[.int .i64 k.gen,.string k.text,.int .i64 k.pGen,.string k.pText,.int .i64 k.epoch,.int .i64 k.owner] 35)).alloc (.cells #[.int .i64 r.kind,.int .i64 r.n,.int .i64 r.owner,.string r.text] 29)).alloc (.cells #[.int .i64 0,.string ⟨#[]⟩,.int .i64 0,.string ⟨#[]⟩,.int .i64 0,.int .i64 0] 35) = W at S ⊢;refine (Bt9 k _ S.out.2.2.2.2.2 hs1 hs2).mono ?_;rw [hk];rintro e W1 ⟨rfl,hb⟩;replace S:=S.later hb;clear hb;obtain ⟨c0,c1,c2,c3,c4,c5⟩:=I9 S.out.2.1.out;obtain ⟨d0,d1,d2,d3⟩:=J9 S.out.2.2.1.out;go_wp2_with fail;refine (Cf9 r _ S.out.2.2.2.2.2 hs3).mono ?_;rw [hr];rintro e W2 ⟨rfl,hb⟩;replace S:=S.later hb;clear hb;clear c0 c1 c2 c3 c4 c5 d0 d1 d2 d3;obtain ⟨c0,c1,c2,c3,c4,c5⟩:=I9 S.out.2.1.out;obtain ⟨d0,d1,d2,d3⟩:=J9 S.out.2.2.1.out;go_wp2_with fail;rw [HK.out];refine (Xu9 _).mono ?_;rintro e W3 ⟨rfl,hb⟩;replace S:=S.later hb;clear hb;clear c0 c1 c2 c3 c4 c5 d0 d1 d2 d3;unfold Pn9;obtain ⟨d0,d1,d2,d3⟩:=J9 S.out.2.2.1.out;have hsz:=S.out.2.2.2.2.1;have hsz1 : w.heap.size + 1 < W3.heap.size:=by omega
 have hsz0 : w.heap.size < W3.heap.size:=by omega
 go_wp2_with fail;have SA:=S.alloc (.cells #[.int .i64 3,.int .i64 1,.bool false,.func (.func 87) #[] #[]] 78);generalize hWA : W3.alloc (.cells #[.int .i64 3,.int .i64 1,.bool false,.func (.func 87) #[] #[]] 78) = WA at SA ⊢;clear hWA hsz hsz1 hsz0 d0 d1 d2 d3;refine (Bt8 w.heap.size k r WA SA.out.2.1.out (by have:=HLT.out;first | exact this | omega)).mono ?_
 rintro e W4 ⟨rfl,hv4,ho⟩;have hbe:=Et9 SA.out.1 ho (by simp)
 have hV4:=Lib.hid ((ho.block (w.heap.size + 1 + 1) SA.out.2.2.2.2.1 (by rw [List.mem_singleton];omega)).trans SA.out.2.2.2.1.out)
 have hsz:=Nat.lt_of_lt_of_le SA.out.2.2.2.2.1 ho.size;have hsz1 : w.heap.size + 1 < W4.heap.size:=by omega
 have hsz0 : w.heap.size < W4.heap.size:=by omega
 obtain ⟨c0,c1,c2,c3,c4,c5⟩:=I9 hv4;obtain ⟨z0,z1,z2,z3,z4,z5⟩:=I9 hV4.out;have zf:=fun i => C9 hV4.out i
 clear S SA ho hv4;go_wp2_with fail;refine bodyPost_ret (v:=.tuple #[.agg #[.int .i64 k.gen,.string k.text,.int .i64 k.pGen,.string k.pText,.int .i64 r.n,.int .i64 r.owner],.bool true]) (by simp [results,Tryz.results12,go_sem,z0,z1,z2,z3,z4,z5]) rfl ⟨rfl,?_⟩
 exact ((((((hbe.setCell (p:=⟨w.heap.size + 1 + 1,0,none⟩) (by simp;omega) _).setCell (p:=⟨w.heap.size + 1 + 1,1,none⟩) (by simp;omega) _).setCell (p:=⟨w.heap.size + 1 + 1,2,none⟩) (by simp;omega) _).setCell (p:=⟨w.heap.size + 1 + 1,3,none⟩) (by simp;omega) _).setCell (p:=⟨w.heap.size + 1 + 1,4,none⟩) (by simp;omega) _).setCell (p:=⟨w.heap.size + 1 + 1,5,none⟩) (by simp;omega) _)
set_option maxRecDepth 100000 in
theorem Ny9 (k : Known) (r : Rec) (w : World) (hg : Given w) (hs1 : k.text.size ≤ 1048576) (hs2 : k.pText.size ≤ 1048576) (hs3 : r.text.size ≤ 1048576) (hk : Ax9 k = true) (hr : Ak9 r = true) (hkd : r.kind = 3) (hlt : ¬ k.epoch < r.n) :
 Calls Tryz.prog 12 #[.agg (T9 k).toArray,.agg (M8 r).toArray] w (RetKB w ((k,false))):=by
 have HK:=Lib.hid hkd;have HLT:=Lib.hid hlt;clear hkd hlt;have S : All (fun w' => Below w.heap.size w w'∧Hid (w'.heap[w.heap.size]? = some (.cells (T9 k).toArray 35 (0,0)))∧Hid (w'.heap[w.heap.size + 1]? = some (.cells (M8 r).toArray 29 (0,0)))∧Hid (w'.heap[w.heap.size + 1 + 1]? = some (.cells (T9 knownZero).toArray 35 (0,0)))∧w.heap.size + 1 + 1 < w'.heap.size∧Given w') (((w.alloc (.cells #[.int .i64 k.gen,.string k.text,.int .i64 k.pGen,.string k.pText,.int .i64 k.epoch,.int .i64 k.owner] 35)).alloc (.cells #[.int .i64 r.kind,.int .i64 r.n,.int .i64 r.owner,.string r.text] 29)).alloc (.cells #[.int .i64 0,.string ⟨#[]⟩,.int .i64 0,.string ⟨#[]⟩,.int .i64 0,.int .i64 0] 35)):=by
  have hb : Below w.heap.size w (((w.alloc (.cells #[.int .i64 k.gen,.string k.text,.int .i64 k.pGen,.string k.pText,.int .i64 k.epoch,.int .i64 k.owner] 35)).alloc (.cells #[.int .i64 r.kind,.int .i64 r.n,.int .i64 r.owner,.string r.text] 29)).alloc (.cells #[.int .i64 0,.string ⟨#[]⟩,.int .i64 0,.string ⟨#[]⟩,.int .i64 0,.int .i64 0] 35)):=(((Below.refl _ _).alloc (Nat.le_refl _) _).alloc (by simp) _).alloc (by simp;omega) _
  refine ⟨hb,Lib.hid ?_,Lib.hid ?_,Lib.hid ?_,by simp,Keeps.keeps (F:=Given) hb hg⟩
  ·rw [Below.heap_alloc _ _ _ (by simp;omega),Below.heap_alloc _ _ _ (by simp)];exact heap_alloc_new w _
  ·rw [Below.heap_alloc _ _ _ (by simp)];exact G9 _ _ (by simp)
  ·exact G9 _ _ (by simp)
 clear hg;show Calls Tryz.prog 12 #[.agg #[.int .i64 k.gen,.string k.text,.int .i64 k.pGen,.string k.pText,.int .i64 k.epoch,.int .i64 k.owner],.agg #[.int .i64 r.kind,.int .i64 r.n,.int .i64 r.owner,.string r.text]] w _
 unfold RetKB;go_enter Tryz.func12,Tryz.ntmps12
 go_wp2_with fail;generalize ((w.alloc (.cells #[.int .i64 k.gen,.string k.text,.int .i64 k.pGen,.string k.pText,.int .i64 k.epoch,.int .i64 k.owner] 35)).alloc (.cells #[.int .i64 r.kind,.int .i64 r.n,.int .i64 r.owner,.string r.text] 29)).alloc (.cells #[.int .i64 0,.string ⟨#[]⟩,.int .i64 0,.string ⟨#[]⟩,.int .i64 0,.int .i64 0] 35) = W at S ⊢;refine (Bt9 k _ S.out.2.2.2.2.2 hs1 hs2).mono ?_;rw [hk];rintro e W1 ⟨rfl,hb⟩;replace S:=S.later hb;clear hb;obtain ⟨c0,c1,c2,c3,c4,c5⟩:=I9 S.out.2.1.out;obtain ⟨d0,d1,d2,d3⟩:=J9 S.out.2.2.1.out;go_wp2_with fail;refine (Cf9 r _ S.out.2.2.2.2.2 hs3).mono ?_;rw [hr];rintro e W2 ⟨rfl,hb⟩;replace S:=S.later hb;clear hb;clear c0 c1 c2 c3 c4 c5 d0 d1 d2 d3;obtain ⟨c0,c1,c2,c3,c4,c5⟩:=I9 S.out.2.1.out;obtain ⟨d0,d1,d2,d3⟩:=J9 S.out.2.2.1.out;go_wp2_with fail;rw [HK.out];refine (Xu9 _).mono ?_;rintro e W3 ⟨rfl,hb⟩;replace S:=S.later hb;clear hb;clear c0 c1 c2 c3 c4 c5 d0 d1 d2 d3;unfold Pn9;obtain ⟨d0,d1,d2,d3⟩:=J9 S.out.2.2.1.out;have hsz:=S.out.2.2.2.2.1;have hsz1 : w.heap.size + 1 < W3.heap.size:=by omega
 have hsz0 : w.heap.size < W3.heap.size:=by omega
 go_wp2_with fail;have SA:=S.alloc (.cells #[.int .i64 3,.int .i64 1,.bool false,.func (.func 87) #[] #[]] 78);generalize hWA : W3.alloc (.cells #[.int .i64 3,.int .i64 1,.bool false,.func (.func 87) #[] #[]] 78) = WA at SA ⊢;clear hWA hsz hsz1 hsz0 d0 d1 d2 d3;refine (Do8 w.heap.size k r WA SA.out.2.1.out (by have:=HLT.out;first | exact this | omega)).mono ?_
 rintro e W4 ⟨rfl,hv4,ho⟩;have hbe:=Et9 SA.out.1 ho (by simp)
 have hV4:=Lib.hid ((ho.block (w.heap.size + 1 + 1) SA.out.2.2.2.2.1 (by rw [List.mem_singleton];omega)).trans SA.out.2.2.2.1.out)
 have hsz:=Nat.lt_of_lt_of_le SA.out.2.2.2.2.1 ho.size;have hsz1 : w.heap.size + 1 < W4.heap.size:=by omega
 have hsz0 : w.heap.size < W4.heap.size:=by omega
 obtain ⟨c0,c1,c2,c3,c4,c5⟩:=I9 hv4;obtain ⟨z0,z1,z2,z3,z4,z5⟩:=I9 hV4.out;have zf:=fun i => C9 hV4.out i
 clear S SA ho hv4;go_wp2_with fail;refine bodyPost_ret (v:=.tuple #[.agg #[.int .i64 k.gen,.string k.text,.int .i64 k.pGen,.string k.pText,.int .i64 k.epoch,.int .i64 k.owner],.bool false]) (by simp [results,Tryz.results12,go_sem,z0,z1,z2,z3,z4,z5]) rfl ⟨rfl,?_⟩
 exact ((((((hbe.setCell (p:=⟨w.heap.size + 1 + 1,0,none⟩) (by simp;omega) _).setCell (p:=⟨w.heap.size + 1 + 1,1,none⟩) (by simp;omega) _).setCell (p:=⟨w.heap.size + 1 + 1,2,none⟩) (by simp;omega) _).setCell (p:=⟨w.heap.size + 1 + 1,3,none⟩) (by simp;omega) _).setCell (p:=⟨w.heap.size + 1 + 1,4,none⟩) (by simp;omega) _).setCell (p:=⟨w.heap.size + 1 + 1,5,none⟩) (by simp;omega) _)
theorem Ky9 (k : Known) (r : Rec) (w : World) (hg : Given w) (hs1 : k.text.size ≤ 1048576) (hs2 : k.pText.size ≤ 1048576) (hs3 : r.text.size ≤ 1048576) : Calls Tryz.prog 12 #[.agg (T9 k).toArray,.agg (M8 r).toArray] w (RetKB w (K8 k r)):=by
 unfold K8;cases hk : Ax9 k
 ·exact Zf9 k r w hg hs1 hs2 hs3 hk
 ·cases hr : Ak9 r
  ·exact Ze9 k r w hg hs1 hs2 hs3 hk hr
  ·rw [if_pos (show (true && true) = true from rfl)]
   by_cases k1 : r.kind = 1
   ·rw [if_pos k1]
    unfold Lj9;split
    ·exact Kx9 k r w hg hs1 hs2 hs3 hk hr k1 (by assumption)
    ·exact Mc9 k r w hg hs1 hs2 hs3 hk hr k1 (by assumption)
   ·rw [if_neg k1]
    by_cases k2 : r.kind = 2
    ·rw [if_pos k2]
     unfold Np9;split
     ·exact Nz9 k r w hg hs1 hs2 hs3 hk hr k2 (by assumption)
     ·exact Qn9 k r w hg hs1 hs2 hs3 hk hr k2 (by assumption)
    ·rw [if_neg k2]
     have k3 : r.kind = 3:=by rcases Uv9 hr with h | h | h <;> first | exact absurd h k1 | exact absurd h k2 | exact h
     unfold Iw9;split
     ·exact Na9 k r w hg hs1 hs2 hs3 hk hr k3 (by assumption)
     ·exact Ny9 k r w hg hs1 hs2 hs3 hk hr k3 (by assumption)
end Go.Proofs.YthpkdjflndiojaaGreatDoor
