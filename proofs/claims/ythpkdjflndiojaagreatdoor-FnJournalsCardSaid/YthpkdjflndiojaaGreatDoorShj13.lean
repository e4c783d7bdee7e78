/- What the theorem needs, out of many texts. -/
import Derived.Test.YthpkdjflndiojaaGreatDoorShj5
import Derived.Deep.Cut
set_option maxHeartbeats 20000000
namespace Go.Proofs.YthpkdjflndiojaaGreatDoor
open Go.RowKit
set_option maxRecDepth 100000
set_option linter.unusedVariables false
def Ac9 (xs : List Rec) : List Value:=xs.flatMap M8
theorem Tt9 (xs ys : List Rec) : Ac9 (xs ++ ys) = Ac9 xs ++ Ac9 ys:=by simp [Ac9]
theorem Ts9 (xs : List Rec) : (Ac9 xs).length = xs.length * 4:=by
 induction xs with
 | nil => rfl
 | cons x xs ih => rw [show Ac9 (x :: xs) = M8 x ++ Ac9 xs from rfl,List.length_append,ih,List.length_cons,show (M8 x).length = 4 from rfl];omega
theorem Jm9 : ∀ (xs : List Rec) (k j : Nat) (x : Rec),xs[k]? = some x→j < 4→(Ac9 xs)[k * 4 + j]? = (M8 x)[j]?:=by
 intro xs;induction xs with
 | nil => intro k j x h;cases h
 | cons y ys ih =>
   intro k j x h hj;have hl : (M8 y).length = 4:=rfl;rw [show Ac9 (y :: ys) = M8 y ++ Ac9 ys from rfl]
   cases k with
   | zero =>
     rw [List.getElem?_cons_zero] at h;injection h with h;subst h;rw [List.getElem?_append_left (by omega)]
     simp
   | succ k =>
     rw [List.getElem?_cons_succ] at h;rw [List.getElem?_append_right (by omega),show (k + 1) * 4 + j - (M8 y).length = k * 4 + j by omega]
     exact ih k j x h hj
theorem Fk9 (xs : List Rec) : ∀ u ∈ Ac9 xs,u.oneCell' = true:=by
 intro u hu;obtain ⟨x,_,h⟩:=List.mem_flatMap.1 hu;simp [M8] at h;rcases h with rfl | rfl | rfl | rfl <;> rfl
def Ep8 (w : World) (A : Option Addr) (xs : List Rec) : Prop:=Reads w w.heap.size 4 A xs.length (Ac9 xs)
instance recsAt_keeps (A : Option Addr) (xs : List Rec) : Keeps (fun w => Ep8 w A xs):=⟨fun h x => (Reads.below x h).more h.size⟩
theorem Re9 {w : World} {A : Option Addr} {xs : List Rec} {k : Nat} (h : Ep8 w A xs) (hk : k < xs.length) :
 ∃ b off x,A = some ⟨b,off,none⟩∧b < w.heap.size∧xs[k]? = some x∧w.cell? ⟨b,off + k * 4,none⟩ = some (.int .i64 x.kind)∧w.cell? ⟨b,off + k * 4 + 1,none⟩ = some (.int .i64 x.n)∧w.cell? ⟨b,off + k * 4 + 2,none⟩ = some (.int .i64 x.owner)∧w.cell? ⟨b,off + k * 4 + 3,none⟩ = some (.string x.text):=by
 obtain ⟨hl,hr⟩:=h;obtain ⟨ad,hA,hb,hc⟩:=hr (by omega)
 obtain ⟨b,off,z⟩:=ad;have hp : (Ac9 xs)[0]? = some _:=List.getElem?_eq_getElem (show 0 < (Ac9 xs).length by rw [Ts9];omega)
 have hsp : z = none:=by simpa [Addr.add] using World.cell?_spot (hc 0 _ hp)
 subst hsp;have ea : ∀ j,(⟨b,off,none⟩ : Addr).add j = ⟨b,off + j,none⟩:=fun j => by
  unfold Addr.add;split <;> simp_all
 have hx:=List.getElem?_eq_getElem hk;have e0 : (Ac9 xs)[k * 4]? = some (.int .i64 xs[k].kind):=Jm9 xs k 0 _ hx (by omega)
 have e1 : (Ac9 xs)[k * 4 + 1]? = some (.int .i64 xs[k].n):=Jm9 xs k 1 _ hx (by omega)
 have e2 : (Ac9 xs)[k * 4 + 2]? = some (.int .i64 xs[k].owner):=Jm9 xs k 2 _ hx (by omega)
 have e3 : (Ac9 xs)[k * 4 + 3]? = some (.string xs[k].text):=Jm9 xs k 3 _ hx (by omega)
 have c0:=hc _ _ e0;have c1:=hc _ _ e1;have c2:=hc _ _ e2;have c3:=hc _ _ e3;rw [ea] at c0 c1 c2 c3;exact ⟨b,off,_,hA,hb,hx,c0,c1,c2,c3⟩
def Ub9 (w : World) (xs : List Rec) (e : Ending) (w' : World) : Prop:=∃ A c,e = .returned (.slice A xs.length c)∧w'.ownsRow w.heap.size 29 4 (.slice A xs.length c) xs.length (Ac9 xs)∧Below w.heap.size w w'
theorem Tryz.infoRecB : (Tryz.prog.info? 29).map (fun i => (i.zero,i.size,i.bytes)) = some (some (.agg #[.int .i64 0,.int .i64 0,.int .i64 0,.string ⟨#[]⟩]),4,40):=by kernel_rfl
def Aw9 (k : Known) : List Rec:=if k.gen = 0 then [] else [⟨1,k.gen,0,k.text⟩,⟨2,k.gen,0,⟨#[]⟩⟩]
def Cp9 (k : Known) : List Rec:=if k.pGen = 0 then [] else [⟨1,k.pGen,0,k.pText⟩]
def Jv9 (k : Known) : List Rec:=if k.epoch = 0 then [] else [⟨3,k.epoch,k.owner,⟨#[]⟩⟩]
def V9 (k : Known) : List Rec:=Aw9 k ++ (Cp9 k ++ Jv9 k)
theorem Ca9 (k : Known) : (V9 k).length ≤ 4:=by
 unfold V9 Aw9 Cp9 Jv9;split <;> split <;> split <;> simp
structure QB (w : World) (k : Known) (v : Value) (xs : List Rec) (W : World) : Prop where
 below : Below (w.heap.size + 1) (w.alloc (.cells (T9 k).toArray 35)) W
 own : W.ownsRow (w.heap.size + 1) 29 4 v xs.length (Ac9 xs)
 big : w.heap.size < W.heap.size
section
variable {w W W' : World} {k : Known} {v v' : Value} {xs ys : List Rec}
theorem QB.box (h : QB w k v xs W) : W.heap[w.heap.size]? = some (.cells (T9 k).toArray 35 (0,0)):=(h.below.block _ (Nat.lt_succ_self _)).trans (heap_alloc_new w _)
theorem QB.nil (w : World) (k : Known) : QB w k (.slice none 0 0) [] (w.alloc (.cells (T9 k).toArray 35)):=⟨Below.refl _ _,⟨rfl,.inl ⟨rfl,rfl⟩⟩,by simp⟩
theorem QB.alloc (h : QB w k v xs W) (o : Obj) : QB w k v xs (W.alloc o):=⟨h.below.alloc h.big o,ownsRow_below h.own (Later.alloc W o) (Nat.le_refl _),by have:=h.big;simp;omega⟩
theorem QB.new (h : QB w k v xs W) : QB w k (.slice (some ⟨W.heap.size,0,none⟩) 0 0) [] (W.alloc (.cells #[] 29)):=⟨h.below.alloc h.big _,World.ownsRow_lit W #[] 0 h.big (by simp [maxLen]) rfl,by have:=h.big;simp;omega⟩
theorem QB.push (h : QB w k v xs W) (ho : W'.ownsRow (w.heap.size + 1) 29 4 v' (xs.length + ys.length) (Ac9 xs ++ Ac9 ys)) (hg : W.grownBy W' v.ownBlock) : QB w k v' (xs ++ ys) W':=
 ⟨h.below.grown hg h.big (fun j hj => (h.own.lt j hj).1),by rw [Tt9,List.length_append];exact ho,Nat.lt_of_lt_of_le h.big hg.size⟩
theorem QB.ret (h : QB w k v xs W) (he : xs = V9 k) : Ub9 w (V9 k) (.returned v) W:=by
 subst he;have ho:=ownsRow_mono h.own (Nat.le_succ w.heap.size);have hb2 : Below w.heap.size w W:=(Later.alloc w _).trans (h.below.mono (by simp))
 rcases h.own.2 with ⟨rfl,h0⟩ | ⟨g,cap,cur,rfl,_⟩
 ·exact ⟨none,0,by rw [h0],by rw [h0] at ho ⊢;exact ho,hb2⟩
 ·exact ⟨_,_,rfl,ho,hb2⟩
end
set_option maxRecDepth 100000 in
theorem Ut9 (k : Known) (w : World) : Calls Tryz.prog 60 #[.agg (T9 k).toArray] w (Ub9 w (V9 k)):=by
 obtain ⟨j0,hj0,hz0,hz1,hz2⟩:=info_parts Tryz.infoRecB;show Calls Tryz.prog 60 #[.agg #[.int .i64 k.gen,.string k.text,.int .i64 k.pGen,.string k.pText,.int .i64 k.epoch,.int .i64 k.owner]] w _
 go_enter Tryz.func60,Tryz.ntmps60
 have L0:=QB.nil w k;replace L0:=L0.new;go_upto_if 7 with (fail)
 have hs : (w.alloc (.cells (T9 k).toArray 35)).heap.size = w.heap.size + 1:=by simp
 rw [hs] at L0;clear hs;replace L0 : QB w k (.slice (some ⟨w.heap.size + 1,0,none⟩) 0 0) [] ((w.alloc (.cells #[.int .i64 k.gen,.string k.text,.int .i64 k.pGen,.string k.pText,.int .i64 k.epoch,.int .i64 k.owner] 35)).alloc (.cells #[] 29)):=L0;generalize (w.alloc (.cells #[.int .i64 k.gen,.string k.text,.int .i64 k.pGen,.string k.pText,.int .i64 k.epoch,.int .i64 k.owner] 35)).alloc (.cells #[] 29) = W at L0 ⊢;go_cut [3] from 4 (fun v W' => QB w k v (Aw9 k) W')
 case first =>
  by_cases h0 : k.gen = 0
  ·have b0 : (k.gen != 0) = false:=by simp [h0]
   have HE:=Lib.hid (show Aw9 k = [] from if_pos h0)
   clear h0;go_wp2_with fail;go_meet
   case rel => exact by rw [HE.out];exact L0
  ·have b0 : (k.gen != 0) = true:=by simp [h0]
   have HE:=Lib.hid (show Aw9 k = [⟨1,k.gen,0,k.text⟩,⟨2,k.gen,0,⟨#[]⟩⟩] from if_neg h0)
   clear h0;obtain ⟨c0,c1,c2,c3,c4,c5⟩:=I9 L0.box;have hbig:=L0.big;have hxl : ([] : List Rec).length ≤ 4:=by first | (simp;done) | (unfold Aw9;split <;> simp;done) | (unfold Aw9 Cp9;split <;> split <;> simp;done)
   go_wp2_with (at_builtin
                have hnew:=T7 W (Ac9 [⟨1,k.gen,0,k.text⟩,⟨2,k.gen,0,⟨#[]⟩⟩]).toArray 4 2 29 (g:=W.heap.size) rfl rfl (by simp [maxLen])
                have L:=L0.alloc (.cells (Ac9 [⟨1,k.gen,0,k.text⟩,⟨2,k.gen,0,⟨#[]⟩⟩]).toArray 29);go_must (refine wpList_append_any _ rfl (.tmp 8) (.tmp 17) _ rfl (w.heap.size + 1) 29 j0 _ 4 40 Tryz.underlying94 hj0 hz0 hz1 hz2 rfl (by omega) (.slice (some ⟨w.heap.size + 1,0,none⟩) 0 0) ([] : List Rec).length (Ac9 ([] : List Rec)) rfl L.own _ _ 2 _ (Ac9 [⟨1,k.gen,0,k.text⟩,⟨2,k.gen,0,⟨#[]⟩⟩]) rfl hnew (Fk9 _) (by simp only [maxLen];omega) (by omega) (by simp;omega) ?_)
                intro v2 w2 hown2 hg2 hat2;have L2:=L.push (ys:=[⟨1,k.gen,0,k.text⟩,⟨2,k.gen,0,⟨#[]⟩⟩]) hown2 hg2;clear hnew L L0 hown2 hg2 hat2 c0 c1 c2 c3 c4 c5 hbig)
   go_meet
   case rel => exact by rw [HE.out];exact L2
 clear L0;obtain ⟨c0,c1,c2,c3,c4,c5⟩:=I9 hcut.box;have hbig:=hcut.big;go_upto_if 21 with (fail)
 clear c0 c1 c2 c3 c4 c5 hbig;have L0:=hcut;clear hcut;generalize wc = W at L0 ⊢;go_cut [3] from 4 (fun v W' => QB w k v (Aw9 k ++ Cp9 k) W')
 case first =>
  by_cases h0 : k.pGen = 0
  ·have b0 : (k.pGen != 0) = false:=by simp [h0]
   have HE:=Lib.hid (show Cp9 k = [] from if_pos h0)
   clear h0;go_wp2_with fail;go_meet
   case rel => exact by rw [HE.out];rw [List.append_nil];exact L0
  ·have b0 : (k.pGen != 0) = true:=by simp [h0]
   have HE:=Lib.hid (show Cp9 k = [⟨1,k.pGen,0,k.pText⟩] from if_neg h0)
   clear h0;obtain ⟨c0,c1,c2,c3,c4,c5⟩:=I9 L0.box;have hbig:=L0.big;have hxl : (Aw9 k).length ≤ 4:=by first | (simp;done) | (unfold Aw9;split <;> simp;done) | (unfold Aw9 Cp9;split <;> split <;> simp;done)
   go_wp2_with (at_builtin
                have hnew:=T7 W (Ac9 [⟨1,k.pGen,0,k.pText⟩]).toArray 4 1 29 (g:=W.heap.size) rfl rfl (by simp [maxLen])
                have L:=L0.alloc (.cells (Ac9 [⟨1,k.pGen,0,k.pText⟩]).toArray 29);go_must (refine wpList_append_any _ rfl (.tmp 22) (.tmp 28) _ rfl (w.heap.size + 1) 29 j0 _ 4 40 Tryz.underlying94 hj0 hz0 hz1 hz2 rfl (by omega) u3 (Aw9 k).length (Ac9 (Aw9 k)) rfl L.own _ _ 1 _ (Ac9 [⟨1,k.pGen,0,k.pText⟩]) rfl hnew (Fk9 _) (by simp only [maxLen];omega) (by omega) (by simp;omega) ?_)
                intro v2 w2 hown2 hg2 hat2;have L2:=L.push (ys:=[⟨1,k.pGen,0,k.pText⟩]) hown2 hg2;clear hnew L L0 hown2 hg2 hat2 c0 c1 c2 c3 c4 c5 hbig)
   go_meet
   case rel => exact by rw [HE.out];exact L2
 clear L0;obtain ⟨c0,c1,c2,c3,c4,c5⟩:=I9 hcut.box;have hbig:=hcut.big;go_upto_if 32 with (fail)
 clear c0 c1 c2 c3 c4 c5 hbig;have L0:=hcut;clear hcut;generalize wc = W at L0 ⊢;go_cut [3] from 4 (fun v W' => QB w k v ((Aw9 k ++ Cp9 k) ++ Jv9 k) W')
 case first =>
  by_cases h0 : k.epoch = 0
  ·have b0 : (k.epoch != 0) = false:=by simp [h0]
   have HE:=Lib.hid (show Jv9 k = [] from if_pos h0)
   clear h0;go_wp2_with fail;go_meet
   case rel => exact by rw [HE.out];rw [List.append_nil];exact L0
  ·have b0 : (k.epoch != 0) = true:=by simp [h0]
   have HE:=Lib.hid (show Jv9 k = [⟨3,k.epoch,k.owner,⟨#[]⟩⟩] from if_neg h0)
   clear h0;obtain ⟨c0,c1,c2,c3,c4,c5⟩:=I9 L0.box;have hbig:=L0.big;have hxl : (Aw9 k ++ Cp9 k).length ≤ 4:=by first | (simp;done) | (unfold Aw9;split <;> simp;done) | (unfold Aw9 Cp9;split <;> split <;> simp;done)
   go_wp2_with (at_builtin
                have hnew:=T7 W (Ac9 [⟨3,k.epoch,k.owner,⟨#[]⟩⟩]).toArray 4 1 29 (g:=W.heap.size) rfl rfl (by simp [maxLen])
                have L:=L0.alloc (.cells (Ac9 [⟨3,k.epoch,k.owner,⟨#[]⟩⟩]).toArray 29);go_must (refine wpList_append_any _ rfl (.tmp 33) (.tmp 39) _ rfl (w.heap.size + 1) 29 j0 _ 4 40 Tryz.underlying94 hj0 hz0 hz1 hz2 rfl (by omega) u3 (Aw9 k ++ Cp9 k).length (Ac9 (Aw9 k ++ Cp9 k)) rfl L.own _ _ 1 _ (Ac9 [⟨3,k.epoch,k.owner,⟨#[]⟩⟩]) rfl hnew (Fk9 _) (by simp only [maxLen];omega) (by omega) (by simp;omega) ?_)
                intro v2 w2 hown2 hg2 hat2;have L2:=L.push (ys:=[⟨3,k.epoch,k.owner,⟨#[]⟩⟩]) hown2 hg2;clear hnew L L0 hown2 hg2 hat2 c0 c1 c2 c3 c4 c5 hbig)
   go_meet
   case rel => exact by rw [HE.out];exact L2
 clear L0;go_wp2_with fail;go_ret
 exact hcut.ret (by unfold V9;rw [List.append_assoc])
set_option maxRecDepth 100000 in
theorem Uu9 (k : Known) (w : World) : Calls Tryz.prog 90 #[.agg (T9 k).toArray] w (Ub9 w (V9 k)):=by
 obtain ⟨j0,hj0,hz0,hz1,hz2⟩:=info_parts Tryz.infoRecB;show Calls Tryz.prog 90 #[.agg #[.int .i64 k.gen,.string k.text,.int .i64 k.pGen,.string k.pText,.int .i64 k.epoch,.int .i64 k.owner]] w _
 go_enter Tryz.func90,Tryz.ntmps90
 have L0:=QB.nil w k;go_upto_if 6 with (fail)
 replace L0 : QB w k (.slice none 0 0) [] (w.alloc (.cells #[.int .i64 k.gen,.string k.text,.int .i64 k.pGen,.string k.pText,.int .i64 k.epoch,.int .i64 k.owner] 35)):=L0;generalize w.alloc (.cells #[.int .i64 k.gen,.string k.text,.int .i64 k.pGen,.string k.pText,.int .i64 k.epoch,.int .i64 k.owner] 35) = W at L0 ⊢;go_cut [3] from 4 (fun v W' => QB w k v (Aw9 k) W')
 case first =>
  by_cases h0 : k.gen = 0
  ·have b0 : (k.gen != 0) = false:=by simp [h0]
   have HE:=Lib.hid (show Aw9 k = [] from if_pos h0)
   clear h0;go_wp2_with fail;go_meet
   case rel => exact by rw [HE.out];exact L0
  ·have b0 : (k.gen != 0) = true:=by simp [h0]
   have HE:=Lib.hid (show Aw9 k = [⟨1,k.gen,0,k.text⟩,⟨2,k.gen,0,⟨#[]⟩⟩] from if_neg h0)
   clear h0;obtain ⟨c0,c1,c2,c3,c4,c5⟩:=I9 L0.box;have hbig:=L0.big;have hxl : ([] : List Rec).length ≤ 4:=by first | (simp;done) | (unfold Aw9;split <;> simp;done) | (unfold Aw9 Cp9;split <;> split <;> simp;done)
   go_wp2_with (at_builtin
                have hnew:=T7 W (Ac9 [⟨1,k.gen,0,k.text⟩,⟨2,k.gen,0,⟨#[]⟩⟩]).toArray 4 2 29 (g:=W.heap.size) rfl rfl (by simp [maxLen])
                have L:=L0.alloc (.cells (Ac9 [⟨1,k.gen,0,k.text⟩,⟨2,k.gen,0,⟨#[]⟩⟩]).toArray 29);go_must (refine wpList_append_any _ rfl (.tmp 7) (.tmp 16) _ rfl (w.heap.size + 1) 29 j0 _ 4 40 Tryz.underlying94 hj0 hz0 hz1 hz2 rfl (by omega) (.slice none 0 0) ([] : List Rec).length (Ac9 ([] : List Rec)) rfl L.own _ _ 2 _ (Ac9 [⟨1,k.gen,0,k.text⟩,⟨2,k.gen,0,⟨#[]⟩⟩]) rfl hnew (Fk9 _) (by simp only [maxLen];omega) (by omega) (by simp;omega) ?_)
                intro v2 w2 hown2 hg2 hat2;have L2:=L.push (ys:=[⟨1,k.gen,0,k.text⟩,⟨2,k.gen,0,⟨#[]⟩⟩]) hown2 hg2;clear hnew L L0 hown2 hg2 hat2 c0 c1 c2 c3 c4 c5 hbig)
   go_meet
   case rel => exact by rw [HE.out];exact L2
 clear L0;obtain ⟨c0,c1,c2,c3,c4,c5⟩:=I9 hcut.box;have hbig:=hcut.big;go_upto_if 20 with (fail)
 clear c0 c1 c2 c3 c4 c5 hbig;have L0:=hcut;clear hcut;generalize wc = W at L0 ⊢;go_cut [3] from 4 (fun v W' => QB w k v (Aw9 k ++ Cp9 k) W')
 case first =>
  by_cases h0 : k.pGen = 0
  ·have b0 : (k.pGen != 0) = false:=by simp [h0]
   have HE:=Lib.hid (show Cp9 k = [] from if_pos h0)
   clear h0;go_wp2_with fail;go_meet
   case rel => exact by rw [HE.out];rw [List.append_nil];exact L0
  ·have b0 : (k.pGen != 0) = true:=by simp [h0]
   have HE:=Lib.hid (show Cp9 k = [⟨1,k.pGen,0,k.pText⟩] from if_neg h0)
   clear h0;obtain ⟨c0,c1,c2,c3,c4,c5⟩:=I9 L0.box;have hbig:=L0.big;have hxl : (Aw9 k).length ≤ 4:=by first | (simp;done) | (unfold Aw9;split <;> simp;done) | (unfold Aw9 Cp9;split <;> split <;> simp;done)
   go_wp2_with (at_builtin
                have hnew:=T7 W (Ac9 [⟨1,k.pGen,0,k.pText⟩]).toArray 4 1 29 (g:=W.heap.size) rfl rfl (by simp [maxLen])
                have L:=L0.alloc (.cells (Ac9 [⟨1,k.pGen,0,k.pText⟩]).toArray 29);go_must (refine wpList_append_any _ rfl (.tmp 21) (.tmp 27) _ rfl (w.heap.size + 1) 29 j0 _ 4 40 Tryz.underlying94 hj0 hz0 hz1 hz2 rfl (by omega) u3 (Aw9 k).length (Ac9 (Aw9 k)) rfl L.own _ _ 1 _ (Ac9 [⟨1,k.pGen,0,k.pText⟩]) rfl hnew (Fk9 _) (by simp only [maxLen];omega) (by omega) (by simp;omega) ?_)
                intro v2 w2 hown2 hg2 hat2;have L2:=L.push (ys:=[⟨1,k.pGen,0,k.pText⟩]) hown2 hg2;clear hnew L L0 hown2 hg2 hat2 c0 c1 c2 c3 c4 c5 hbig)
   go_meet
   case rel => exact by rw [HE.out];exact L2
 clear L0;obtain ⟨c0,c1,c2,c3,c4,c5⟩:=I9 hcut.box;have hbig:=hcut.big;go_upto_if 31 with (fail)
 clear c0 c1 c2 c3 c4 c5 hbig;have L0:=hcut;clear hcut;generalize wc = W at L0 ⊢;go_cut [3] from 4 (fun v W' => QB w k v ((Aw9 k ++ Cp9 k) ++ Jv9 k) W')
 case first =>
  by_cases h0 : k.epoch = 0
  ·have b0 : (k.epoch != 0) = false:=by simp [h0]
   have HE:=Lib.hid (show Jv9 k = [] from if_pos h0)
   clear h0;go_wp2_with fail;go_meet
   case rel => exact by rw [HE.out];rw [List.append_nil];exact L0
  ·have b0 : (k.epoch != 0) = true:=by simp [h0]
   have HE:=Lib.hid (show Jv9 k = [⟨3,k.epoch,k.owner,⟨#[]⟩⟩] from if_neg h0)
   clear h0;obtain ⟨c0,c1,c2,c3,c4,c5⟩:=I9 L0.box;have hbig:=L0.big;have hxl : (Aw9 k ++ Cp9 k).length ≤ 4:=by first | (simp;done) | (unfold Aw9;split <;> simp;done) | (unfold Aw9 Cp9;split <;> split <;> simp;done)
   go_wp2_with (at_builtin
                have hnew:=T7 W (Ac9 [⟨3,k.epoch,k.owner,⟨#[]⟩⟩]).toArray 4 1 29 (g:=W.heap.size) rfl rfl (by simp [maxLen])
                have L:=L0.alloc (.cells (Ac9 [⟨3,k.epoch,k.owner,⟨#[]⟩⟩]).toArray 29);go_must (refine wpList_append_any _ rfl (.tmp 32) (.tmp 38) _ rfl (w.heap.size + 1) 29 j0 _ 4 40 Tryz.underlying94 hj0 hz0 hz1 hz2 rfl (by omega) u3 (Aw9 k ++ Cp9 k).length (Ac9 (Aw9 k ++ Cp9 k)) rfl L.own _ _ 1 _ (Ac9 [⟨3,k.epoch,k.owner,⟨#[]⟩⟩]) rfl hnew (Fk9 _) (by simp only [maxLen];omega) (by omega) (by simp;omega) ?_)
                intro v2 w2 hown2 hg2 hat2;have L2:=L.push (ys:=[⟨3,k.epoch,k.owner,⟨#[]⟩⟩]) hown2 hg2;clear hnew L L0 hown2 hg2 hat2 c0 c1 c2 c3 c4 c5 hbig)
   go_meet
   case rel => exact by rw [HE.out];exact L2
 clear L0;go_wp2_with fail;go_ret
 exact hcut.ret (by unfold V9;rw [List.append_assoc])
end Go.Proofs.YthpkdjflndiojaaGreatDoor
namespace Go.Proofs.YthpkdjflndiojaaGreatDoor
open Go.RowKit
set_option maxRecDepth 2000000
set_option linter.unusedVariables false
structure Wr where
 n : Int
 b : List UInt8
structure Disk where
 secs : List (List UInt8)
 cache : List Wr
 fuse : Int
 down : Bool
def byR : Rep (List UInt8):=Rep.bytes 5
def wrR : Rep Wr:=(Rep.int.pair byR).iso (fun x => (x.n,x.b)) (fun p => ⟨p.1,p.2⟩)
def secsR : Rep (List (List UInt8)):=Rep.rows 22 byR
def cacheR : Rep (List Wr):=Rep.rows 84 wrR
def diskR : Rep Disk:=(secsR.pair (cacheR.pair (Rep.int.pair Rep.bool))).iso (fun d => (d.secs,d.cache,d.fuse,d.down)) (fun p => ⟨p.1,p.2.1,p.2.2.1,p.2.2.2⟩)
theorem Tryz.info22 : (Tryz.prog.info? 22).map (fun i => (i.zero,i.size,i.bytes)) = some (some (.slice none 0 0),1,24):=by kernel_rfl
theorem Ek9 {w : World} {B n k : Nat} {A : Option Addr} {xs : List (List UInt8)} (h : Rep.RowsAt byR w B A n xs) (hk : k < n) :
 ∃ b off A' c l,A = some ⟨b,off,none⟩∧b < B∧xs[k]? = some l∧w.cell? ⟨b,off + k,none⟩ = some (.slice A' l.length c)∧(l.length ≤ c∧c ≤ maxLen)∧Reads w B 1 A' l.length (bys l):=by
 obtain ⟨b,off,c,l,hA,hb,hx,⟨A',c',rfl,hc,hr⟩,hcell⟩:=h.elem hk (show 0 < 1 by omega)
 have:=hcell 0 _ rfl;exact ⟨b,off,A',c',l,hA,hb,hx,by simpa [byR,Rep.bytes] using this,hc,hr⟩
theorem Lb9 {w : World} {B n k : Nat} {A : Option Addr} {xs : List Wr} (h : Rep.RowsAt wrR w B A n xs) (hk : k < n) :
 ∃ b off A' c x,A = some ⟨b,off,none⟩∧b < B∧xs[k]? = some x∧w.cell? ⟨b,off + k * 2,none⟩ = some (.int .i64 x.n)∧w.cell? ⟨b,off + k * 2 + 1,none⟩ = some (.slice A' x.b.length c)∧(x.b.length ≤ c∧c ≤ maxLen)∧Reads w B 1 A' x.b.length (bys x.b):=by
 obtain ⟨b,off,c,x,hA,hb,hx,h2,hcell⟩:=h.elem hk (show 0 < 2 by omega)
 have h2':=h2;obtain ⟨h3,A',c',h4,hc,hr⟩:=h2';have hl : c.length = 2:=Rep.len wrR h2;match c,hl with
 | [u, v], _ =>
   replace h3 : [u] = [.int .i64 x.n]:=h3;replace h4 : [v] = [.slice A' x.b.length c']:=h4;injection h3 with h3;injection h4 with h4;subst h3 h4;exact ⟨b,off,A',c',x,hA,hb,hx,by have:=hcell 0 _ rfl;rwa [show wrR.size = 2 from rfl] at this,by have:=hcell 1 _ rfl;rwa [show wrR.size = 2 from rfl,← Nat.add_assoc] at this,hc,hr⟩
theorem Mg9 {w : World} {base : Nat} {v : Value} {x : Wr} (h : Owns w base 5 v x.b) : wrR.own w base [.int .i64 x.n,v] x v.ownBlock.toList:=
 ⟨[],v.ownBlock.toList,⟨rfl,rfl⟩,⟨v,rfl,h,rfl⟩,rfl,Rep.nodup_toList _⟩
theorem Tryz.info42 : (Tryz.prog.info? 84).map (fun i => (i.zero,i.size,i.bytes)) = some (some (.agg #[.int .i64 0,.slice none 0 0]),2,32):=by kernel_rfl
theorem Bl9 {w : World} {B : Nat} {d : Disk} {cs : List Value} (h : diskR.at_ w B cs d) :
 ∃ A c A' c',cs = [.slice A d.secs.length c,.slice A' d.cache.length c',.int .i64 d.fuse,.bool d.down]∧(d.secs.length ≤ c∧c ≤ maxLen)∧(d.cache.length ≤ c'∧c' ≤ maxLen)∧Rep.RowsAt byR w B A d.secs.length d.secs∧Rep.RowsAt wrR w B A' d.cache.length d.cache:=by
 have hl : cs.length = 4:=Rep.len diskR h;obtain ⟨⟨A,c,h1,hc,hr⟩,⟨A',c',h2,hc',hr'⟩,h3,h4⟩:=h;match cs,hl with
 | [a, b, e, f], _ =>
   replace h1 : [a] = [.slice A d.secs.length c]:=h1;replace h2 : [b] = [.slice A' d.cache.length c']:=h2;replace h3 : [e] = [.int .i64 d.fuse]:=h3;replace h4 : [f] = [.bool d.down]:=h4;injection h1 with h1;injection h2 with h2;injection h3 with h3;injection h4 with h4;subst h1 h2 h3 h4;exact ⟨A,c,A',c',rfl,hc,hc',hr,hr'⟩
def Ag9 (d : Disk) : Prop:=d.secs.length ≤ 1048576∧(∀ l,l ∈ d.secs→l.length ≤ 1048576)∧d.cache.length ≤ 1048576∧(∀ x,x ∈ d.cache→x.b.length ≤ 1048576)
theorem Iy9 {w : World} {base B : Nat} {v v' : Value} {d : Disk} {f f' : List Nat} (h : Rep.OwnRows byR 22 w base v d.secs f) (h' : Rep.OwnRows wrR 84 w B v' d.cache f') (hB : base ≤ B) (hf : ∀ g,g ∈ f→g < B) :
 diskR.own w base [v,v',.int .i64 d.fuse,.bool d.down] d (f ++ f'):=by
 have hn1 : f.Nodup:=Rep.nodup secsR (w:=w) (base:=base) (cs:=[v]) (x:=d.secs) ⟨v,rfl,h⟩;have hn2 : f'.Nodup:=Rep.nodup cacheR (w:=w) (base:=B) (cs:=[v']) (x:=d.cache) ⟨v',rfl,h'⟩;refine ⟨f,f',⟨v,rfl,h⟩,⟨f',[],⟨v',rfl,h'.low hB⟩,⟨[],[],⟨rfl,rfl⟩,⟨rfl,rfl⟩,rfl,by simp⟩,by simp,by simpa using hn2⟩,by simp,?_⟩
 exact Rep.nodup_append_of hn1 hn2 fun a ha ha' => by have:=hf a ha;have:=(h'.lt a ha').1;omega
theorem Hi9 {w : World} {base : Nat} {cs : List Value} {d : Disk} {fp : List Nat} (h : diskR.own w base cs d fp) :
 ∃ v v' f f',cs = [v,v',.int .i64 d.fuse,.bool d.down]∧Rep.OwnRows byR 22 w base v d.secs f∧Rep.OwnRows wrR 84 w base v' d.cache f'∧fp = f ++ f'∧fp.Nodup:=by
 have hl : cs.length = 4:=Rep.len diskR (Rep.reads diskR h);obtain ⟨f,f',⟨v,h1,ho⟩,⟨g,g',⟨v',h2,ho'⟩,⟨q,q',⟨h3,hq⟩,⟨h4,hq'⟩,hqq,_⟩,hgg,_⟩,hff,hn⟩:=h;match cs,hl with
 | [a, b, e, u], _ =>
   replace h1 : [a] = [v]:=h1;replace h2 : [b] = [v']:=h2;replace h3 : [e] = [.int .i64 d.fuse]:=h3;replace h4 : [u] = [.bool d.down]:=h4;injection h1 with h1;injection h2 with h2;injection h3 with h3;injection h4 with h4;subst h1 h2 h3 h4 hq hq';refine ⟨a,b,f,g,rfl,ho,ho',?_,hn⟩;rw [hff,hgg,hqq];simp
def Ef9 : Disk:=⟨[],[],0,false⟩
def An9 (n : Int) : Disk:=if 1 ≤ n∧n ≤ 40 then ⟨List.replicate n.toNat [],[],-1,false⟩ else Ef9
def RetDisk (w : World) (d : Disk) (e : Ending) (w' : World) : Prop:=∃ cs fp,e = .returned (.agg cs.toArray)∧diskR.own w' w.heap.size cs d fp∧Below w.heap.size w w'
theorem Jp9 (w : World) (base : Nat) : Rep.OwnRows wrR 84 w base (.slice none 0 0) [] []:=⟨[],[],⟨by simp,.inl ⟨rfl,rfl⟩⟩,rfl,fun i x f hx => by simp at hx,rfl,by simp⟩
theorem Ol9 (w : World) (base : Nat) : Rep.OwnRows byR 22 w base (.slice none 0 0) [] []:=⟨[],[],⟨by simp,.inl ⟨rfl,rfl⟩⟩,rfl,fun i x f hx => by simp at hx,rfl,by simp⟩
theorem Rx9 (w : World) (base : Nat) : diskR.own w base [.slice none 0 0,.slice none 0 0,.int .i64 0,.bool false] Ef9 []:=
 Iy9 (d:=Ef9) (Ol9 w base) (Jp9 w base) (Nat.le_refl _) (by simp)
theorem Hb9 {w : World} {base base' e size n g c : Nat} {cells : List Value} (h : w.ownsRow base e size (.slice (some ⟨g,0,none⟩) n c) n cells) (hb : base' ≤ g) : w.ownsRow base' e size (.slice (some ⟨g,0,none⟩) n c) n cells:=by
 refine ⟨h.1,?_⟩;rcases h.2 with ⟨h2,_⟩ | ⟨g',cap,cur,hv,hg,r⟩
 ·cases h2
 ·have : g = g':=by injection hv with hv _ _;injection hv with hv;injection hv
  subst this;exact .inr ⟨g,cap,cur,hv,hb,r⟩
theorem Wg9 (n : Int) (w : World) :
 Calls Tryz.prog 36 #[.int .i64 n] w (RetDisk w (An9 n)):=by
 by_cases h : 1 ≤ n∧n ≤ 40
 ·obtain ⟨m,rfl⟩:=Int.eq_ofNat_of_zero_le (show 0 ≤ n by omega)
  have HD:=Lib.hid (show An9 (m : Int) = ⟨List.replicate m [],[],-1,false⟩ by unfold An9;rw [if_pos h];rfl)
  obtain ⟨h1,h2⟩:=h;have h1' : ¬ ((m : Int) < 1):=by omega
  have h2' : ¬ ((m : Int) > 40):=by omega
  obtain ⟨i0,hi0,hz0,hz1,hz2⟩:=info_parts Tryz.info22;go_enter Tryz.func36,Tryz.ntmps36
  go_wp2_with (at_make;refine wpList_make_full _ rfl _ _ _ rfl w.heap.size 22 i0 _ 1 Tryz.underlying24 hi0 hz0 hz1 _ _ _ _ m rfl rfl rfl rfl (by rw [hz2];omega) (by simp only [maxLen];omega) (by simp) ?_;intro w1 hown1 hg1;obtain ⟨hc,hf⟩:=gcell hg1)
  have hz : w.heap.size < w1.heap.size:=by have:=hg1.size;simp at this;omega
  refine bodyPost_ret (v:=.agg #[.slice (some ⟨w.heap.size + 1,0,none⟩) m m,.slice none 0 0,.int .i64 (-1),.bool false]) (by simp [results,Tryz.results36,go_sem,hc]) rfl ⟨_,[w.heap.size + 1],rfl,?_,?_⟩
  ·rw [HD.out]
   refine diskR.low (base:=w.heap.size + 1) ?_ (by omega)
   repeat (refine Rep.setLow ?_ (by first | (simp;done) | (simp;omega)) _)
   refine Iy9 (d:=⟨List.replicate m [],[],-1,false⟩) (f:=[w.heap.size + 1]) (f':=[]) (B:=w.heap.size + 2) ?_ (Jp9 _ _) (by omega) (by simp)
   refine Am8 byR _ w1 _ _ (.slice (some ⟨w.heap.size + 1,0,none⟩) m m) [] [.slice none 0 0] (madeCells (Value.slice none 0 0).cells (m * 1)).toList ?_ (Rep.seg_made #[.slice none 0 0] _) (fun w => ⟨_,rfl,⟨by simp [bys],.inl ⟨rfl,rfl⟩⟩,rfl⟩)
   rw [show (w.alloc (.cells #[.slice none 0 0,.slice none 0 0,.int .i64 0,.bool false] 27)).heap.size = w.heap.size + 1 by simp] at hown1
   exact Hb9 hown1 (by simp)
  ·repeat (refine Below.setCell ?_ (by first | (simp;done) | (simp;omega)) _)
   exact (((Below.refl w.heap.size w).alloc (Nat.le_refl _) _).grown hg1 (by simp) (fun _ hk => by cases hk))
 ·have HD:=Lib.hid (show An9 n = Ef9 by unfold An9;rw [if_neg h])
  by_cases h1 : n < 1
  all_goals
   have h2 : (n < 1 ∨ n > 40):=by omega
   go_enter Tryz.func36,Tryz.ntmps36
   go_wp2
   refine bodyPost_ret (v:=.agg #[.slice none 0 0,.slice none 0 0,.int .i64 0,.bool false]) (by simp [results,Tryz.results36,go_sem]) rfl ⟨_,[],rfl,?_,?_⟩
   ·rw [HD.out]
    exact Rx9 _ _
   ·repeat (refine Below.setCell ?_ (by first | (simp;done) | (simp;omega)) _)
    exact (Below.refl w.heap.size w).alloc (Nat.le_refl _) _
def Ci8 (w : World) (d : Disk) (e : Ending) (w' : World) : Prop:=∃ cs,e = .returned (.agg cs.toArray)∧diskR.at_ w' w'.heap.size cs d∧Below w.heap.size w w'
theorem RetDisk.at {w : World} {d : Disk} {e : Ending} {w' : World} (h : RetDisk w d e w') : Ci8 w d e w':=by
 obtain ⟨cs,fp,he,ho,hb⟩:=h;exact ⟨cs,he,Rep.reads diskR ho,hb⟩
set_option maxRecDepth 100000 in
theorem Ma9 (n : Int) (w : World) : Calls Tryz.prog 104 #[.int .i64 n] w (RetDisk w (An9 n)):=by
 by_cases h : 1 ≤ n∧n ≤ 40
 ·obtain ⟨m,rfl⟩:=Int.eq_ofNat_of_zero_le (show 0 ≤ n by omega)
  have HD:=Lib.hid (show An9 (m : Int) = ⟨List.replicate m [],[],-1,false⟩ by unfold An9;rw [if_pos h];rfl)
  obtain ⟨h1,h2⟩:=h;obtain ⟨i0,hi0,hz0,hz1,hz2⟩:=info_parts Tryz.info22;go_enter Tryz.func104,Tryz.ntmps104
  go_wp2_with (go_at_call 62;refine (Dl9 _ h1 h2).mono ?_;rintro e w' ⟨rfl,rfl⟩)
  go_loopw [4] (fun i wr => ∃ (k : Nat) (v : Value) (fp : List Nat),k ≤ m∧i = .int .i64 k∧wr.heap[w.heap.size]? = some (.cells #[.slice none 0 0,.slice none 0 0,.int .i64 0,.bool false] 27 (0,0))∧wr.heap[w.heap.size + 1]? = some (.cells #[v,.slice none 0 0,.int .i64 (-1),.bool false] 27 (0,0))∧Rep.OwnRows byR 22 wr (w.heap.size + 2) v (List.replicate k []) fp∧Below w.heap.size w wr) (fun i _ => m - (intOf i).toNat)
  case atStart => exact ⟨0,.slice none 0 0,[],by omega,rfl,(Below.heap_alloc _ _ _ (by simp)).trans (heap_alloc_new w _),G9 _ _ (by simp),Ol9 _ _,((Below.refl w.heap.size w).alloc (Nat.le_refl _) _).alloc (by simp) _⟩
  case round =>
   obtain ⟨k,v,fp,hk,rfl,hR,hD,hown,hb⟩:=hrel;have hc0 : wr.cell? ⟨w.heap.size + 1,0,none⟩ = some v:=E9 hD 0;have hc1 : wr.cell? ⟨w.heap.size + 1,1,none⟩ = some (.slice none 0 0):=E9 hD 1;have hc2 : wr.cell? ⟨w.heap.size + 1,2,none⟩ = some (.int .i64 (-1)):=E9 hD 2;have hc3 : wr.cell? ⟨w.heap.size + 1,3,none⟩ = some (.bool false):=E9 hD 3;have hf0:=C9 hD 0;have hz : w.heap.size + 1 < wr.heap.size:=World.block_lt_of_cell? wr ⟨w.heap.size + 1,0,none⟩ hc0;have HR:=Lib.hid hR;have HV:=Lib.hid hD;clear hR hD;by_cases hlt : k < m
   ·have hlv : ∀ g,g ∈ fp→w.heap.size + 2 ≤ g∧g < wr.heap.size:=fun g hg => hown.lt g hg
    go_wp2_with (at_builtin
                 have hnew:=T7 (wr.alloc (.cells #[] 5)) #[.slice (some ⟨wr.heap.size,0,none⟩) 0 0] 1 1 22 (g:=wr.heap.size + 1) (by simp) rfl (by simp [maxLen])
                 clear hc1 hc2 hc3;go_must (refine Rep.wpList_push _ rfl (.tmp 16) (.tmp 18) _ rfl byR (w.heap.size + 2) 22 i0 _ 24 Tryz.underlying24 hi0 hz0 hz1 hz2 rfl (by decide) v (List.replicate k []) fp rfl ((hown.alloc _).alloc _) _ _ _ [] [wr.heap.size] rfl hnew (Hr9 rfl) ⟨_,rfl,(World.ownsRow_lit (base:=w.heap.size + 2) (e:=5) (size:=1) wr #[] 0 (by omega) (by simp) rfl).alloc _,rfl⟩ (fun g hg hg' => by have h3:=(hlv g hg').2;simp at hg;omega) (by simp only [maxLen,List.length_replicate];omega) (by rw [List.length_replicate];omega) (by simp;omega) ?_)
                 intro A2 c2 w2 fp2 hown2 hg2 hf2 hv2;rw [List.length_replicate] at hown2;have hV2 : w2.heap[w.heap.size + 1]? = some (.cells #[v,.slice none 0 0,.int .i64 (-1),.bool false] 27 (0,0)):=(hg2.block (w.heap.size + 1) (by simp;omega) (fun e => by have:=(hv2 _ e.symm).1;omega)).trans ((Below.heap_alloc _ _ _ (by simp;omega)).trans ((Below.heap_alloc _ _ _ hz).trans HV.out))
                 have hR2 : w2.heap[w.heap.size]? = some (.cells #[.slice none 0 0,.slice none 0 0,.int .i64 0,.bool false] 27 (0,0)):=(hg2.block (w.heap.size) (by simp;omega) (fun e => by have:=(hv2 _ e.symm).1;omega)).trans ((Below.heap_alloc _ _ _ (by simp;omega)).trans ((Below.heap_alloc _ _ _ (by omega)).trans HR.out))
                 have hb2 : Below w.heap.size w w2:=((hb.alloc hb.size _).alloc (by simp;have:=hb.size;omega) _).grown hg2 (by simp;have:=hb.size;omega) (fun j hj => by have:=(hv2 j hj).1;omega)
                 have hc0' : w2.cell? ⟨w.heap.size + 1,0,none⟩ = some v:=E9 hV2 0;have hf0':=C9 hV2 0;have HV2:=Lib.hid (N9 hV2 0 (.slice A2 (k + 1) c2));have HR2:=Lib.hid ((heap_setCell_other w2 ⟨w.heap.size + 1,0,none⟩ w.heap.size (.slice A2 (k + 1) c2) (by simp)).trans hR2)
                 have hown3:=hown2.setLow (p:=⟨w.heap.size + 1,0,none⟩) (by simp) (.slice A2 (k + 1) c2)
                 have hb3:=hb2.setCell (p:=⟨w.heap.size + 1,0,none⟩) (by simp) (.slice A2 (k + 1) c2)
                 clear hV2 hR2 hnew hg2)
    rw [← List.replicate_succ'] at hown3;go_roundw
    case rel => exact ⟨k + 1,_,fp2,by omega,by go_num,HR2.out,HV2.out,hown3,hb3⟩
    case measure => simp [intOf];omega
   ·have he : k = m:=by omega
    subst he;obtain ⟨A,c,rfl,_,_,_⟩:=hown.reads;have hr0 : wr.cell? ⟨w.heap.size,0,none⟩ = some (.slice none 0 0):=E9 HR.out 0;have hr1 : wr.cell? ⟨w.heap.size,1,none⟩ = some (.slice none 0 0):=E9 HR.out 1;have hr2 : wr.cell? ⟨w.heap.size,2,none⟩ = some (.int .i64 0):=E9 HR.out 2;have hr3 : wr.cell? ⟨w.heap.size,3,none⟩ = some (.bool false):=E9 HR.out 3;have hq0:=C9 HR.out 0;have hq1:=C9 HR.out 1;have hq2:=C9 HR.out 2;have hq3:=C9 HR.out 3;go_wp2
    refine bodyPost_ret (v:=.agg #[.slice A (List.replicate k ([] : List UInt8)).length c,.slice none 0 0,.int .i64 (-1),.bool false]) (by simp [results,Tryz.results104,go_sem,hr0,hr1,hr2,hr3]) rfl ⟨_,fp ++ [],rfl,?_,?_⟩
    ·rw [HD.out]
     refine diskR.low (base:=w.heap.size + 2) ?_ (by omega)
     repeat (refine Rep.setLow ?_ (by first | (simp;done) | (simp;omega)) _)
     exact Iy9 (d:=⟨List.replicate k [],[],-1,false⟩) hown (Jp9 wr wr.heap.size) (by omega) (fun g hg => (hown.lt g hg).2)
    ·repeat (refine Below.setCell ?_ (by first | (simp;done) | (simp;omega)) _)
     exact hb
 ·have HD:=Lib.hid (show An9 n = Ef9 by unfold An9;rw [if_neg h])
  go_enter Tryz.func104,Tryz.ntmps104
  go_wp2_with (go_at_call 62;refine (Hs9 _ h).mono ?_;rintro e w' ⟨rfl,rfl⟩)
  refine bodyPost_ret (v:=.agg #[.slice none 0 0,.slice none 0 0,.int .i64 0,.bool false]) (by simp [results,Tryz.results104,go_sem]) rfl ⟨_,[],rfl,?_,?_⟩
  ·rw [HD.out]
   exact Rx9 _ _
  ·repeat (refine Below.setCell ?_ (by first | (simp;done) | (simp;omega)) _)
   exact ((Below.refl w.heap.size w).alloc (Nat.le_refl _) _).alloc (by simp) _
def WrOk (m : Nat) (x : Wr) : Prop:=0 ≤ x.n∧x.n < (m : Int)∧x.b.length ≤ 160
def Z9 (d : Disk) : Prop:=
 (1 ≤ d.secs.length∧d.secs.length ≤ 40∧d.cache.length ≤ 30)∧(∀ b,b ∈ d.secs→b.length ≤ 160)∧(∀ x,x ∈ d.cache→WrOk d.secs.length x)∧(-1 ≤ d.fuse∧d.fuse ≤ 1000)
noncomputable def Bz9 (d : Disk) : Bool:=@decide (Z9 d) (Classical.propDecidable _)
theorem Kp9 {d : Disk} (h : Z9 d) : Bz9 d = true:=by unfold Bz9;exact @decide_eq_true _ (Classical.propDecidable _) h
theorem Bn9 {d : Disk} (h : ¬ Z9 d) : Bz9 d = false:=by unfold Bz9;exact @decide_eq_false _ (Classical.propDecidable _) h
theorem Cv9 {d : Disk} (h : Bz9 d = true) : Z9 d:=by unfold Bz9 at h;exact @of_decide_eq_true _ (Classical.propDecidable _) h
theorem Er9 {d : Disk} (h : Bz9 d = false) : ¬ Z9 d:=by unfold Bz9 at h;exact @of_decide_eq_false _ (Classical.propDecidable _) h
theorem Ko9 (cs : List Value) (d : Disk) (n : Int) (w : World) (h : diskR.at_ w w.heap.size cs d) (h0 : 0 ≤ n) (h1 : n < (d.secs.length : Int)) : Calls Tryz.prog 67 #[.agg cs.toArray,.int .i64 n] w (Y8 w true):=by
 obtain ⟨A,c,A',c',rfl,_,_,_,_⟩:=Bl9 h;clear h;go_enter Tryz.func67,Tryz.ntmps67
 go_wp2
 go_ret
 exact ⟨rfl,(Below.refl _ _).alloc (Nat.le_refl _) _⟩
theorem Mq9 (cs : List Value) (d : Disk) (n : Int) (w : World) (h : diskR.at_ w w.heap.size cs d) (h1 : ¬ (0 ≤ n∧n < (d.secs.length : Int))) : Calls Tryz.prog 67 #[.agg cs.toArray,.int .i64 n] w (Y8 w false):=by
 obtain ⟨A,c,A',c',rfl,_,_,_,_⟩:=Bl9 h;clear h;by_cases h0 : 0 ≤ n
 ·have h2 : ¬ n < (d.secs.length : Int):=fun h2 => h1 ⟨h0,h2⟩
  clear h1;go_enter Tryz.func67,Tryz.ntmps67
  go_wp2
  go_ret
  exact ⟨rfl,(Below.refl _ _).alloc (Nat.le_refl _) _⟩
 ·clear h1
  go_enter Tryz.func67,Tryz.ntmps67
  go_wp2
  go_ret
  exact ⟨rfl,(Below.refl _ _).alloc (Nat.le_refl _) _⟩
theorem Hv9 (cs : List Value) (d : Disk) (w : World) (h : diskR.at_ w w.heap.size cs d) (hs : Ag9 d) :
 Calls Tryz.prog 28 #[.agg cs.toArray] w (Y8 w (Bz9 d)):=by
 obtain ⟨A,c,A',c',rfl,_,_,hr,hr'⟩:=Bl9 h;have f1:=hs.1;have f3:=hs.2.2.1;by_cases hlen : 1 ≤ d.secs.length∧d.secs.length ≤ 40∧d.cache.length ≤ 30
 ·obtain ⟨l1,l2,l3⟩:=id hlen
  have n1 : ¬ ((d.secs.length : Int) < 1):=by omega
  have n2 : ¬ ((d.secs.length : Int) > 40):=by omega
  have n3 : ¬ ((d.cache.length : Int) > 30):=by omega
  go_enter Tryz.func28,Tryz.ntmps28
  go_wp2
  have hat0 : diskR.at_ (w.alloc (.cells #[.slice A d.secs.length c,.slice A' d.cache.length c',.int .i64 d.fuse,.bool d.down] 27)) w.heap.size [.slice A d.secs.length c,.slice A' d.cache.length c',.int .i64 d.fuse,.bool d.down] d:=Rep.at_alloc h (Nat.le_refl _) _;have hv:=heap_alloc_new w (.cells #[.slice A d.secs.length c,.slice A' d.cache.length c',.int .i64 d.fuse,.bool d.down] 27);have hb0 : Below w.heap.size w (w.alloc (.cells #[.slice A d.secs.length c,.slice A' d.cache.length c',.int .i64 d.fuse,.bool d.down] 27)):=(Below.refl _ _).alloc (Nat.le_refl _) _;have hs0 : w.heap.size < (w.alloc (.cells #[.slice A d.secs.length c,.slice A' d.cache.length c',.int .i64 d.fuse,.bool d.down] 27)).heap.size:=by simp
  replace hr:=hr.keep fun p hp => hb0.cell hp
  replace hr':=hr'.keep fun p hp => hb0.cell hp
  generalize w.alloc (.cells #[.slice A d.secs.length c,.slice A' d.cache.length c',.int .i64 d.fuse,.bool d.down] 27) = W1 at hat0 hv hb0 hs0 hr hr' ⊢;have HV:=Lib.hid hv;have HA:=Lib.hid h;clear hv h;go_loop [4,26] (fun _ i => ∃ k : Nat,k ≤ d.secs.length∧i = .int .i64 k∧AllP (fun b : List UInt8 => b.length ≤ 160) d.secs k) (fun _ i => d.secs.length - (intOf i).toNat)
  case atStart => exact ⟨0,by omega,rfl,AllP.zero _ _⟩
  case round =>
   obtain ⟨k,hk,rfl,hall⟩:=hrel;by_cases hlt : k < d.secs.length
   ·obtain ⟨b,off,A2,c2,l,rfl,hbl,hx,hcell,hlc,_⟩:=Ek9 hr hlt
    have hl63 : l.length ≤ 9223372036854775807:=Nat.le_trans hlc.1 hlc.2;have HX:=Lib.hid hx;clear hx hlc;by_cases h160 : l.length ≤ 160
    ·go_wp2
     go_round
     case rel => exact ⟨k + 1,by omega,by go_num,hall.succ HX.out h160⟩
     case measure => simp [intOf];omega
    ·go_wp2
     go_ret
     exact ⟨by rw [Bn9 (fun hg => h160 (hg.2.1 l (List.mem_of_getElem? HX.out)))];rfl,hb0⟩
   ·have he : k = d.secs.length:=by omega
    subst he;have hsecs:=Lib.hid hall.all;have c0 : W1.cell? ⟨w.heap.size,1,none⟩ = some (.slice A' d.cache.length c'):=E9 HV.out 1;go_wp2
    clear c0;go_loopw [37] (fun i wr => ∃ k : Nat,k ≤ d.cache.length∧i = .int .i64 k∧AllP (WrOk d.secs.length) d.cache k∧Below W1.heap.size W1 wr) (fun i _ => d.cache.length - (intOf i).toNat)
    case atStart => exact ⟨0,by omega,rfl,AllP.zero _ _,Below.refl _ _⟩
    case round =>
        obtain ⟨k,hk,rfl,hall2,hb⟩:=hrel;have hbw : Below w.heap.size w wr:=hb0.trans (hb.mono (by omega))
        have hvr:=Lib.hid ((hb.block w.heap.size hs0).trans HV.out);have hzr : w.heap.size < wr.heap.size:=by have:=hb.size;omega
        by_cases hlt : k < d.cache.length
        ·obtain ⟨b,off,A2,c2,x,rfl,hbl,hx,hcell1,hcell2,hlc,_⟩:=Lb9 (hr'.keep fun p hp => hb.cell (by omega)) hlt
         have hl63 : x.b.length ≤ 9223372036854775807:=Nat.le_trans hlc.1 hlc.2;have HX:=Lib.hid hx;clear hx hlc;have d0 : wr.cell? ⟨w.heap.size,0,none⟩ = some (.slice A d.secs.length c):=E9 hvr.out 0;have d1 : wr.cell? ⟨w.heap.size,1,none⟩ = some (.slice (some ⟨b,off,none⟩) d.cache.length c'):=E9 hvr.out 1;have d2 : wr.cell? ⟨w.heap.size,2,none⟩ = some (.int .i64 d.fuse):=E9 hvr.out 2;have d3 : wr.cell? ⟨w.heap.size,3,none⟩ = some (.bool d.down):=E9 hvr.out 3;have hatr : diskR.at_ (wr.alloc (.cells #[.int .i64 x.n,.slice A2 x.b.length c2] 84)) (wr.alloc (.cells #[.int .i64 x.n,.slice A2 x.b.length c2] 84)).heap.size [.slice A d.secs.length c,.slice (some ⟨b,off,none⟩) d.cache.length c',.int .i64 d.fuse,.bool d.down] d:=Rep.more diskR (Rep.at_alloc (Rep.at_below HA.out hbw) hbw.size _) (by simp;omega)
         by_cases hin : 0 ≤ x.n∧x.n < (d.secs.length : Int)
         ·go_wp2_with fail
          refine (Ko9 _ d x.n _ hatr hin.1 hin.2).mono ?_;rintro e w3 ⟨rfl,hb3⟩;obtain ⟨hc,hf⟩:=F7 hb3;have hbw3 : Below W1.heap.size W1 w3:=(hb.alloc hb.size _).trans (hb3.mono (by simp;have:=hb.size;omega))
          have hb03 : Below w.heap.size w w3:=hb0.trans (hbw3.mono (by omega))
          by_cases h160 : x.b.length ≤ 160
          ·go_wp2
           go_roundw
           case rel => exact ⟨k + 1,by omega,by go_num,hall2.succ HX.out ⟨hin.1,hin.2,h160⟩,hbw3⟩
           case measure => simp [intOf];omega
          ·go_wp2
           go_ret
           exact ⟨by rw [Bn9 (fun hg => h160 (hg.2.2.1 x (List.mem_of_getElem? HX.out)).2.2)];rfl,hb03⟩
         ·go_wp2_with fail
          refine (Mq9 _ d x.n _ hatr hin).mono ?_;rintro e w3 ⟨rfl,hb3⟩;have hb03 : Below w.heap.size w w3:=(hbw.alloc hbw.size _).trans (hb3.mono (by simp;omega))
          go_wp2
          go_ret
          exact ⟨by rw [Bn9 (fun hg => hin ⟨(hg.2.2.1 x (List.mem_of_getElem? HX.out)).1,(hg.2.2.1 x (List.mem_of_getElem? HX.out)).2.1⟩)];rfl,hb03⟩
        ·have he : k = d.cache.length:=by omega
         subst he;have d2 : wr.cell? ⟨w.heap.size,2,none⟩ = some (.int .i64 d.fuse):=E9 hvr.out 2;by_cases q1 : -1 ≤ d.fuse
         ·by_cases q2 : d.fuse ≤ 1000
          ·have HG:=Lib.hid (Kp9 ⟨⟨l1,l2,l3⟩,hsecs.out,hall2.all,q1,q2⟩)
           go_wp2
           go_ret
           exact ⟨by rw [HG.out];rfl,hbw⟩
          ·have HG:=Lib.hid (Bn9 (d:=d) (fun hg => q2 hg.2.2.2.2))
           go_wp2
           go_ret
           exact ⟨by rw [HG.out];rfl,hbw⟩
         ·have HG:=Lib.hid (Bn9 (d:=d) (fun hg => q1 hg.2.2.2.1))
          go_wp2
          go_ret
          exact ⟨by rw [HG.out];rfl,hbw⟩
 ·have HB:=Lib.hid (Bn9 (d:=d) (fun hg => hlen hg.1))
  by_cases l1 : 1 ≤ d.secs.length
  ·by_cases l2 : d.secs.length ≤ 40
   ·have l3 : ¬ d.cache.length ≤ 30:=fun l3 => hlen ⟨l1,l2,l3⟩
    clear h hlen hs;go_enter Tryz.func28,Tryz.ntmps28
    go_wp2
    go_ret
    exact ⟨by rw [HB.out];rfl,(Below.refl _ _).alloc (Nat.le_refl _) _⟩
   ·clear h hlen hs
    go_enter Tryz.func28,Tryz.ntmps28
    go_wp2
    go_ret
    exact ⟨by rw [HB.out];rfl,(Below.refl _ _).alloc (Nat.le_refl _) _⟩
  ·clear h hlen hs
   go_enter Tryz.func28,Tryz.ntmps28
   go_wp2
   go_ret
   exact ⟨by rw [HB.out];rfl,(Below.refl _ _).alloc (Nat.le_refl _) _⟩
theorem Gm9 (cs : List Value) (d : Disk) (w : World) (h : diskR.at_ w w.heap.size cs d) (hs : Ag9 d) :
 Calls Tryz.prog 30 #[.agg cs.toArray] w (Y8 w (Bz9 d)):=by
 obtain ⟨A,c,A',c',rfl,_,_,hr,hr'⟩:=Bl9 h;have f1:=hs.1;have f3:=hs.2.2.1;go_enter Tryz.func30,Tryz.ntmps30
 go_wp2
 have hv:=heap_alloc_new w (.cells #[.slice A d.secs.length c,.slice A' d.cache.length c',.int .i64 d.fuse,.bool d.down] 27);have hb0 : Below w.heap.size w (w.alloc (.cells #[.slice A d.secs.length c,.slice A' d.cache.length c',.int .i64 d.fuse,.bool d.down] 27)):=(Below.refl _ _).alloc (Nat.le_refl _) _;have hs0 : w.heap.size < (w.alloc (.cells #[.slice A d.secs.length c,.slice A' d.cache.length c',.int .i64 d.fuse,.bool d.down] 27)).heap.size:=by simp
 replace hr:=hr.keep fun p hp => hb0.cell hp
 replace hr':=hr'.keep fun p hp => hb0.cell hp
 generalize w.alloc (.cells #[.slice A d.secs.length c,.slice A' d.cache.length c',.int .i64 d.fuse,.bool d.down] 27) = W1 at hv hb0 hs0 hr hr' ⊢;have c0 : W1.cell? ⟨w.heap.size,0,none⟩ = some (.slice A d.secs.length c):=E9 hv 0;have c1 : W1.cell? ⟨w.heap.size,1,none⟩ = some (.slice A' d.cache.length c'):=E9 hv 1;have c2 : W1.cell? ⟨w.heap.size,2,none⟩ = some (.int .i64 d.fuse):=E9 hv 2;clear hv h;go_loop [3] (fun i => ∃ k : Nat,k ≤ d.secs.length∧i = .int .i64 k∧AllP (fun b : List UInt8 => b.length ≤ 160) d.secs k) (fun i => d.secs.length - (intOf i).toNat)
 case atStart => exact ⟨0,by omega,rfl,AllP.zero _ _⟩
 case round =>
  obtain ⟨k,hk,rfl,hall⟩:=hrel;by_cases hlt : k < d.secs.length
  ·obtain ⟨b,off,A2,cc,l,rfl,hbl,hx,hcell,hlc,_⟩:=Ek9 hr hlt
   have hl63 : l.length ≤ 9223372036854775807:=Nat.le_trans hlc.1 hlc.2;have HX:=Lib.hid hx;clear hx hlc;by_cases h160 : l.length ≤ 160
   ·go_wp2
    go_round
    case rel => exact ⟨k + 1,by omega,by go_num,hall.succ HX.out h160⟩
    case measure => simp [intOf];omega
   ·go_wp2
    go_ret
    exact ⟨by rw [Bn9 (fun hg => h160 (hg.2.1 l (List.mem_of_getElem? HX.out)))];rfl,hb0⟩
  ·have he : k = d.secs.length:=by omega
   subst he;have hsecs:=Lib.hid hall.all;go_wp2
   go_loopw [4] (fun i wr => ∃ k : Nat,k ≤ d.cache.length∧i = .int .i64 k∧AllP (WrOk d.secs.length) d.cache k∧Hid (∃ n,wr = W1.drewN n)) (fun i _ => d.cache.length - (intOf i).toNat)
   case atStart => exact ⟨0,by omega,rfl,AllP.zero _ _,Lib.hid ⟨0,rfl⟩⟩
   case round =>
       obtain ⟨k,hk,rfl,hall2,hw⟩:=hrel;have hbw : Below w.heap.size w wr:=by obtain ⟨n,rfl⟩:=hw.out;exact belowD hb0 n
       have hkeep : ∀ p : Addr,wr.cell? p = W1.cell? p:=by obtain ⟨n,rfl⟩:=hw.out;exact fun _ => rfl
       have e0 : wr.cell? ⟨w.heap.size,0,none⟩ = some (.slice A d.secs.length c):=(hkeep _).trans c0;have e1 : wr.cell? ⟨w.heap.size,1,none⟩ = some (.slice A' d.cache.length c'):=(hkeep _).trans c1;have e2 : wr.cell? ⟨w.heap.size,2,none⟩ = some (.int .i64 d.fuse):=(hkeep _).trans c2;by_cases hlt : k < d.cache.length
       ·obtain ⟨b,off,A2,c2',x,rfl,hbl,hx,hcell1,hcell2,hlc,_⟩:=Lb9 (hr'.keep fun p hp => hkeep p) hlt
        have hl63 : x.b.length ≤ 9223372036854775807:=Nat.le_trans hlc.1 hlc.2;have HX:=Lib.hid hx;clear hx hlc c0 c1 c2 hkeep;have i1 : (0 : Int) ≤ (k : Int):=by omega
        have i2 : (k : Int) < (d.cache.length : Int):=by omega
        by_cases hin : 0 ≤ x.n∧x.n ≤ (d.secs.length : Int) - 1
        ·by_cases h160 : x.b.length ≤ 160
         ·have g160 : decide ((x.b.length : Int) > 160) = false:=by simp;omega
          go_wp2
          go_quiet ((go_at_call 62;exact Kd9 (Dl9 _ hin.1 hin.2)))
          go_wp2
          go_roundw
          case rel => exact ⟨k + 1,by omega,by go_num,hall2.succ HX.out ⟨hin.1,by omega,h160⟩,Lib.hid (by obtain ⟨n,rfl⟩:=hw.out;exact ⟨n + nq,by rw [World.drewN_drewN]⟩)⟩
          case measure => simp [intOf];omega
         ·have g160 : decide ((x.b.length : Int) > 160) = true:=by simp;omega
          go_wp2
          go_quiet ((go_at_call 62;exact Kd9 (Dl9 _ hin.1 hin.2)))
          go_wp2
          go_ret
          exact ⟨by rw [Bn9 (fun hg => h160 (hg.2.2.1 x (List.mem_of_getElem? HX.out)).2.2)];rfl,belowD hbw _⟩
        ·have hin' : Hid (¬ (0 ≤ x.n∧x.n ≤ (d.secs.length : Int) - 1)):=Lib.hid hin
         clear hin;go_wp2
         go_quiet ((go_at_call 62;exact Kd9 (Hs9 _ hin'.out)))
         go_wp2
         go_ret
         exact ⟨by rw [Bn9 (fun hg => hin'.out ⟨(hg.2.2.1 x (List.mem_of_getElem? HX.out)).1,by have:=(hg.2.2.1 x (List.mem_of_getElem? HX.out)).2.1;omega⟩)];rfl,belowD hbw _⟩
       ·have he : k = d.cache.length:=by omega
        subst he;clear c0 c1 c2 hkeep;by_cases q0 : (1 : Int) ≤ (d.secs.length : Int)∧(d.secs.length : Int) ≤ 40
        ·by_cases q3 : d.cache.length ≤ 30
         ·by_cases q1 : -1 ≤ d.fuse∧d.fuse ≤ 1000
          ·have HG:=Lib.hid (Kp9 ⟨⟨by omega,by omega,q3⟩,hsecs.out,hall2.all,q1.1,q1.2⟩)
           go_wp2_with fail;refine (Dl9 _ q0.1 q0.2).mono ?_;rintro e w3 ⟨rfl,rfl⟩;go_wp2_with fail;refine (Dl9 _ q1.1 q1.2).mono ?_;rintro e w3 ⟨rfl,rfl⟩;go_wp2_with fail;go_ret
           exact ⟨by rw [HG.out];rfl,hbw⟩
          ·have HG:=Lib.hid (Bn9 (d:=d) (fun hg => q1 hg.2.2.2))
           have Q1:=Lib.hid q1;clear q1;go_wp2_with fail;refine (Dl9 _ q0.1 q0.2).mono ?_;rintro e w3 ⟨rfl,rfl⟩;go_wp2_with fail;refine (Hs9 _ Q1.out).mono ?_;rintro e w3 ⟨rfl,rfl⟩;go_wp2_with fail;go_ret
           exact ⟨by rw [HG.out];rfl,hbw⟩
         ·have HG:=Lib.hid (Bn9 (d:=d) (fun hg => q3 hg.1.2.2))
          go_wp2_with fail;refine (Dl9 _ q0.1 q0.2).mono ?_;rintro e w3 ⟨rfl,rfl⟩;go_wp2_with fail;go_ret
          exact ⟨by rw [HG.out];rfl,hbw⟩
        ·have HG:=Lib.hid (Bn9 (d:=d) (fun hg => q0 ⟨by have:=hg.1.1;omega,by have:=hg.1.2.1;omega⟩))
         have Q0:=Lib.hid q0;clear q0;go_wp2_with fail;refine (Hs9 _ Q0.out).mono ?_;rintro e w3 ⟨rfl,rfl⟩;go_wp2_with fail;go_ret
         exact ⟨by rw [HG.out];rfl,hbw⟩
end Go.Proofs.YthpkdjflndiojaaGreatDoor
