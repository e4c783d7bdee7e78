/- What the theorem needs, out of many texts. -/
import Derived.Test.YthpkdjflndiojaaGreatDoorShj7
import Derived.LaidEql
import Derived.Stop.Asserts
import Derived.RowKitTokens
import Derived.Laws.EntriesVeiled
set_option maxHeartbeats 20000000
namespace Go.Proofs.YthpkdjflndiojaaGreatDoor
open Go.RowKit Go.Extern.Stop Go.Stop Go.Extern
set_option maxRecDepth 100000
theorem as_nil (t : Value) (w : World) :
 Calls Tryz.prog 115 #[.nilIface,t] w fun e w' => e = .returned (.bool false)∧w' = w:=by
 go_enter Tryz.func115,Tryz.ntmps115
 go_wp2
 go_ret
 exact ⟨rfl,rfl⟩
theorem Cf8 (t : Addr) (w : World) : (ReflectliteValue.unpack (.iface 148 (.pointer (some t)))).run Tryz.prog w
 = .ok (.agg #[.pointer (some ⟨4,148,none⟩),.pointer (some ⟨w.heap.size,0,none⟩),.int .u64 150]) (w.alloc (.cells #[.pointer (some t)] 148)):=by kernel_rfl
theorem Dx8 (a : Addr) (w : World) : (ReflectliteValue.methodAny (ReflectliteValue.valueError "reflectlite.Value.Type" 0) (fun t _ _ _ => ReflectliteType.toType t) #[.agg #[.pointer (some ⟨4, 148, none⟩), .pointer (some a), .int .u64 150]]).run Tryz.prog w
 = .ok (.iface 171 (.agg #[.pointer (some ⟨4,148,none⟩)])) w:=by kernel_rfl
theorem Ed8 (w : World) : ((ReflectliteType.abiMethod fun t => (fun a : Nat => Value.int IntKind.u8 (a : Int)) <$> Rtype.kind t) #[.pointer (some ⟨4,148,none⟩)]).run Tryz.prog w = .ok (.int .u8 22) w:=by kernel_rfl
theorem Ec8 (w : World) : ((ReflectliteType.abiMethod fun t => (fun a : Nat => Value.int IntKind.u8 (a : Int)) <$> Rtype.kind t) #[.pointer (some ⟨4,146,none⟩)]).run Tryz.prog w = .ok (.int .u8 25) w:=by kernel_rfl
theorem Eh8 (w : World) : (ReflectliteType.method ReflectliteType.elem #[.agg #[.pointer (some ⟨4,148,none⟩)]]).run Tryz.prog w = .ok (.iface 171 (.agg #[.pointer (some ⟨4,146,none⟩)])) w:=by kernel_rfl
theorem Ef8 (w : World) : (ReflectliteType.relation "Implements" ReflectliteType.implements_ #[.agg #[.pointer (some ⟨4, 146, none⟩)], .iface 171 (.agg #[.pointer (some ⟨4, 142, none⟩)])]).run Tryz.prog w = .ok (.bool true) w := by kernel_rfl
theorem Yy9 (v : Value) (w : World) : (ReflectliteType.typeOf #[.iface 146 v]).run Tryz.prog w = .ok (.iface 171 (.agg #[.pointer (some ⟨4,146,none⟩)])) w:=by kernel_rfl
theorem Zb9 (w : World) : (ReflectliteType.relation "AssignableTo" ReflectliteType.assignableTo #[.agg #[.pointer (some ⟨4, 146, none⟩)], .iface 171 (.agg #[.pointer (some ⟨4, 146, none⟩)])]).run Tryz.prog w = .ok (.bool true) w := by kernel_rfl
theorem Ce8 (n : Int) (w : World) : (ReflectliteValue.unpack (.iface 146 (.agg #[.int .i64 n]))).run Tryz.prog w
 = .ok (.agg #[.pointer (some ⟨4,146,none⟩),.pointer (some ⟨w.heap.size,0,none⟩),.int .u64 153]) (w.alloc (.cells #[.int .i64 n] 146)):=by kernel_rfl
theorem Ch8 (w : World) : (Rtype.elem? 148).run Tryz.prog w = .ok (some 146) w:=by kernel_rfl
theorem as_mkS (p : Addr) (w : World) : (ReflectliteValue.mk 146 p ReflectliteValue.flagAddr).run Tryz.prog w = .ok (.agg #[.pointer (some ⟨4,146,none⟩),.pointer (some p),.int .u64 409]) w:=by kernel_rfl
theorem Sd9 (a : Addr) (w : World) : (ReflectliteValue.parts (.agg #[.pointer (some ⟨4,148,none⟩),.pointer (some a),.int .u64 150])).run Tryz.prog w = .ok (some (148,a,150)) w:=by kernel_rfl
theorem Yz9 (a : Addr) (w : World) : (ReflectliteValue.parts (.agg #[.pointer (some ⟨4,146,none⟩),.pointer (some a),.int .u64 409])).run Tryz.prog w = .ok (some (146,a,409)) w:=by kernel_rfl
theorem Cg8 (a : Addr) (w : World) : (ReflectliteValue.parts (.agg #[.pointer (some ⟨4,146,none⟩),.pointer (some a),.int .u64 153])).run Tryz.prog w = .ok (some (146,a,153)) w:=by kernel_rfl
theorem Za9 (w : World) : (Rtype.directlyAssignable 146 146).run Tryz.prog w = .ok true w:=by kernel_rfl
theorem Dz8 (z : Sem Value) (f : TypeId→Addr→Nat→Nat→Sem Value) (v : Value) :
 ReflectliteValue.method z f #[v] = (do match ← ReflectliteValue.parts v with | none => z | some (t,a,fl) => f t a fl (fl % 32)):=rfl
theorem Ee8 (a p : Addr) (W : World) (ha : W.cell? a = some (.pointer (some p))) :
 (ReflectliteValue.method (ReflectliteValue.valueError "reflectlite.Value.IsNil" 0) ReflectliteValue.isNil #[.agg #[.pointer (some ⟨4, 148, none⟩), .pointer (some a), .int .u64 150]]).run Tryz.prog W = .ok (.bool false) W := by
 rw [Dz8];simp only [Sem.run_bind,Sd9,Result.andThen];simp [ReflectliteValue.isNil,loadVar,isAgg,underlying,Tryz.underlying148,ha,Result.andThen]
theorem Eg8 (a p : Addr) (W : World) (ha : W.cell? a = some (.pointer (some p))) :
 (ReflectliteValue.method (ReflectliteValue.valueError "reflectlite.Value.Elem" 0) ReflectliteValue.elem #[.agg #[.pointer (some ⟨4, 148, none⟩), .pointer (some a), .int .u64 150]]).run Tryz.prog W
  = .ok (.agg #[.pointer (some ⟨4,146,none⟩),.pointer (some p),.int .u64 409]) W:=by
 rw [Dz8];simp only [Sem.run_bind,Sd9,Result.andThen];simp [ReflectliteValue.elem,loadVar,isAgg,underlying,Tryz.underlying148,ha,Result.andThen,Ch8,as_mkS]
theorem as_rls (v x : Value) : ReflectliteValue.set #[v,x] = (do
 let (some (dst,a,fl),some (src,b,_)):=(← ReflectliteValue.parts v,← ReflectliteValue.parts x)
  | unsupported (.noEntry "extern/(internal/reflectlite.Value).Set.zeroValue")
 if fl / ReflectliteValue.flagAddr % 2 == 0 then unsupported (.noEntry "extern/(internal/reflectlite.Value).Set.unaddressable")
 let val ← loadVar src b
 if ← Rtype.directlyAssignable dst src then storeVar dst a val
 else if ← Rtype.implements dst src then
  if (← Rtype.kind src) == 20 then
     match val with
     | .nilIface => unsupported (.noEntry "extern/reflectlite: a nil value of one interface type handed on as a value of another")
     | _ => storeVar dst a val
  else storeVar dst a (.iface src val)
 else panicString ("reflectlite.Set: value of type " ++ (← Rtype.spelt src) ++ " is not assignable to type " ++ (← Rtype.spelt dst))
 pure (.tuple #[])):=rfl
theorem as_load (b : Addr) (n : Int) (W : World) (hb : W.cell? b = some (.int .i64 n)) : (loadVar 146 b).run Tryz.prog W = .ok (.agg #[.int .i64 n]) W:=by
 have hl : (loadCells b 1).run Tryz.prog W = .ok #[.int .i64 n] W:=by
  simp [loadCells,loadCellsFrom,hb,Addr.add,Result.andThen]
 have ha : (isAgg 146).run Tryz.prog W = .ok true W:=by kernel_rfl
 have hs : (sizeOf 146).run Tryz.prog W = .ok 1 W:=by kernel_rfl
 unfold loadVar;simp only [Sem.run_bind,ha,hs,Result.andThen,if_true,hl,Sem.run_pure]
theorem Dy8 (a : Addr) (n : Int) (old : Value) (W : World) (ht : W.cell? a = some old) (hf : W.frozen? a = false) : (storeVar 146 a (.agg #[.int .i64 n])).run Tryz.prog W = .ok () (W.setCell a (.int .i64 n)):=by
 have hs : (sizeOf 146).run Tryz.prog W = .ok 1 W:=by kernel_rfl
 have hst : (store a (.int .i64 n)).run Tryz.prog W = .ok () (W.setCell a (.int .i64 n)):=by
  rw [run_store Tryz.prog W a _ _ (by rfl)]
  simp [ht,hf]
 unfold storeVar;simp only [Sem.run_bind,hs,Result.andThen,Value.cells];simp [storeCells,Addr.add,hst]
theorem as_set (ta b : Addr) (n : Int) (old : Value) (W : World) (hb : W.cell? b = some (.int .i64 n)) (ht : W.cell? ta = some old) (hf : W.frozen? ta = false) :
 (ReflectliteValue.set #[.agg #[.pointer (some ⟨4,146,none⟩),.pointer (some ta),.int .u64 409],.agg #[.pointer (some ⟨4,146,none⟩),.pointer (some b),.int .u64 153]]).run Tryz.prog W
  = .ok (.tuple #[]) (W.setCell ta (.int .i64 n)):=by
 have h1:=as_load b n W hb;have h2:=Dy8 ta n old W ht hf;rw [as_rls];simp only [Sem.run_bind,Yz9,Cg8,Result.andThen];simp [ReflectliteValue.flagAddr,h1,h2,Result.andThen,Za9]
theorem Ea8 (h : Value) (w : World) : (Go.method 328 171 (.agg #[h]) "Kind").run Tryz.prog w = .ok (164, h) w := by kernel_rfl
theorem Eb8 (h : Value) (w : World) : (Go.method 328 171 (.agg #[h]) "Elem").run Tryz.prog w = .ok (174, .agg #[h]) w := by kernel_rfl
theorem Qj9 (h : Value) (w : World) : (Go.method 328 171 (.agg #[h]) "Implements").run Tryz.prog w = .ok (175, .agg #[h]) w := by kernel_rfl
theorem My9 (h : Value) (w : World) : (Go.method 328 171 (.agg #[h]) "AssignableTo").run Tryz.prog w = .ok (172, .agg #[h]) w := by kernel_rfl
theorem as_hit (n : Int) (t : Addr) (old : Value) (w : World) (hg : w.cell? ⟨0,0,none⟩ = some (.iface 171 (.agg #[.pointer (some ⟨4,142,none⟩)]))) (ht0 : w.cell? t = some old) (hf0 : w.frozen? t = false) :
 Calls Tryz.prog 115 #[.iface 146 (.agg #[.int .i64 n]),.iface 148 (.pointer (some t))] w fun ev w' => ev = .returned (.bool true)∧w' = ((((w.alloc (.cells #[.pointer (some t)] 148)).alloc (.cells #[.pointer (some ⟨4,148,none⟩),.pointer (some ⟨w.heap.size,0,none⟩),.int .u64 150] 158)).alloc (.cells #[.pointer (some ⟨4,148,none⟩),.pointer (some ⟨w.heap.size,0,none⟩),.int .u64 150] 158)).alloc (.cells #[.int .i64 n] 146)).setCell t (.int .i64 n):=by
 have x1:=@run_callFunc_extern Tryz.prog 124 _ (fun args => ReflectliteValue.unpack (args.getD 0 (.tuple #[]))) Tryz.func124 (by kernel_rfl) (by kernel_rfl) (by kernel_rfl) (by kernel_rfl)
 have x2 := @run_callFunc_extern Tryz.prog 125 _ (ReflectliteValue.methodAny (ReflectliteValue.valueError "reflectlite.Value.Type" 0) (fun t _ _ _ => ReflectliteType.toType t)) Tryz.func125 (by kernel_rfl) (by kernel_rfl) (by kernel_rfl) (by kernel_rfl)
 have x3 := @run_callFunc_extern Tryz.prog 126 _ (ReflectliteValue.method (ReflectliteValue.valueError "reflectlite.Value.IsNil" 0) ReflectliteValue.isNil) Tryz.func126 (by kernel_rfl) (by kernel_rfl) (by kernel_rfl) (by kernel_rfl)
 have x4:=@run_callFunc_extern Tryz.prog 164 _ (ReflectliteType.abiMethod fun t => do pure (.int .u8 (← Rtype.kind t))) Tryz.func164 (by kernel_rfl) (by kernel_rfl) (by kernel_rfl) (by kernel_rfl)
 have x5:=@run_callFunc_extern Tryz.prog 174 _ (ReflectliteType.method ReflectliteType.elem) Tryz.func174 (by kernel_rfl) (by kernel_rfl) (by kernel_rfl) (by kernel_rfl)
 have x6 := @run_callFunc_extern Tryz.prog 175 _ (ReflectliteType.relation "Implements" ReflectliteType.implements_) Tryz.func175 (by kernel_rfl) (by kernel_rfl) (by kernel_rfl) (by kernel_rfl)
 have x7:=@run_callFunc_extern Tryz.prog 131 _ ReflectliteType.typeOf Tryz.func131 (by kernel_rfl) (by kernel_rfl) (by kernel_rfl) (by kernel_rfl)
 have x8 := @run_callFunc_extern Tryz.prog 172 _ (ReflectliteType.relation "AssignableTo" ReflectliteType.assignableTo) Tryz.func172 (by kernel_rfl) (by kernel_rfl) (by kernel_rfl) (by kernel_rfl)
 have x9 := @run_callFunc_extern Tryz.prog 132 _ (ReflectliteValue.method (ReflectliteValue.valueError "reflectlite.Value.Elem" 0) ReflectliteValue.elem) Tryz.func132 (by kernel_rfl) (by kernel_rfl) (by kernel_rfl) (by kernel_rfl)
 have x10:=@run_callFunc_extern Tryz.prog 133 _ ReflectliteValue.set Tryz.func133 (by kernel_rfl) (by kernel_rfl) (by kernel_rfl) (by kernel_rfl)
 have tO:=Yy9;have mA:=My9;have aS:=Zb9;have vS:=Ce8;have vP:=Cf8;have tP:=Dx8;have mK:=Ea8;have mE:=Eb8;have mI:=Qj9;have kP:=Ed8;have kS:=Ec8;have eP:=Eh8;have iS:=Ef8;have n8:=Ee8 ⟨w.heap.size,0,none⟩ t ((w.alloc (.cells #[.pointer (some t)] 148)).alloc (.cells #[.pointer (some ⟨4,148,none⟩),.pointer (some ⟨w.heap.size,0,none⟩),.int .u64 150] 158)) (by simp)
 have hlt : 0 < w.heap.size:=by
  rcases Nat.eq_zero_or_pos w.heap.size with h0 | h
  ·simp [World.cell?,h0] at hg
  ·exact h
 have hg2 : ((w.alloc (.cells #[.pointer (some t)] 148)).alloc (.cells #[.pointer (some ⟨4,148,none⟩),.pointer (some ⟨w.heap.size,0,none⟩),.int .u64 150] 158)).cell? ⟨0,0,none⟩ = some (.iface 171 (.agg #[.pointer (some ⟨4,142,none⟩)])):=by
  rw [World.cell?_alloc_lt _ _ ⟨0,0,none⟩ (by simp),World.cell?_alloc_lt _ _ ⟨0,0,none⟩ hlt];exact hg
 have htl : t.block < w.heap.size:=by
  rcases Nat.lt_or_ge t.block w.heap.size with h | h
  ·exact h
  ·simp [World.cell?,Array.getElem?_eq_none h] at ht0
 have el:=Eg8 ⟨w.heap.size,0,none⟩ t (((w.alloc (.cells #[.pointer (some t)] 148)).alloc (.cells #[.pointer (some ⟨4,148,none⟩),.pointer (some ⟨w.heap.size,0,none⟩),.int .u64 150] 158)).alloc (.cells #[.pointer (some ⟨4,148,none⟩),.pointer (some ⟨w.heap.size,0,none⟩),.int .u64 150] 158)) (by rw [World.cell?_alloc_lt _ _ ⟨w.heap.size,0,none⟩ (by simp;omega)];simp)
 have st:=as_set t ⟨w.heap.size + 1 + 1 + 1,0,none⟩ n old ((((w.alloc (.cells #[.pointer (some t)] 148)).alloc (.cells #[.pointer (some ⟨4,148,none⟩),.pointer (some ⟨w.heap.size,0,none⟩),.int .u64 150] 158)).alloc (.cells #[.pointer (some ⟨4,148,none⟩),.pointer (some ⟨w.heap.size,0,none⟩),.int .u64 150] 158)).alloc (.cells #[.int .i64 n] 146))
  (by rw [World.cell?_alloc_at _ _ _ _ (by simp)];rfl)
  (by rw [World.cell?_alloc_lt _ _ t (by simp;omega),World.cell?_alloc_lt _ _ t (by simp;omega),World.cell?_alloc_lt _ _ t (by simp;omega),World.cell?_alloc_lt _ _ t htl];exact ht0)
  (by rw [World.frozen?_alloc_old _ _ t (by simp;omega),World.frozen?_alloc_old _ _ t (by simp;omega),World.frozen?_alloc_old _ _ t (by simp;omega),World.frozen?_alloc_old _ _ t (Nat.ne_of_lt htl)];exact hf0)
 go_enter Tryz.func115,Tryz.ntmps115
 go_wp2
 refine wp_loop_rounds 1 ?_;rw [rounds_succ];go_wp2
 go_ret
 exact ⟨rfl,rfl⟩
end Go.Proofs.YthpkdjflndiojaaGreatDoor
namespace Go.Proofs.YthpkdjflndiojaaGreatDoor
open Go.RowKit
set_option maxRecDepth 100000
set_option linter.unusedVariables false
theorem Yl9 {ps : List (List UInt8)} {d : Db} (h : Fg9 ps = some d) : ps.length = 5:=by
 rcases ps with _ | ⟨n,_ | ⟨a,_ | ⟨b,_ | ⟨c,_ | ⟨e,_ | ⟨f,ps⟩⟩⟩⟩⟩⟩
 ·cases h
 ·cases h
 ·cases h
 ·cases h
 ·cases h
 ·rfl
 ·cases h
theorem run_len : ∀ (n : Nat) (T cur : List UInt8) (ps : List (List UInt8)) (xs ys : List Db),T.length ≤ n→Gq9 T cur ps xs = some ys→5 * ys.length ≤ 5 * xs.length + ps.length + T.length:=by
 intro n;induction n with
 | zero =>
   intro T cur ps xs ys h h1;obtain rfl : T = []:=List.eq_nil_of_length_eq_zero (by omega)
   have h2 : some xs = some ys:=h1;injection h2 with h2;subst h2;omega
 | succ n ih =>
   intro T cur ps xs ys h h1;cases T with
   | nil =>
     have h2 : some xs = some ys:=h1;injection h2 with h2;subst h2;omega
   | cons b r =>
     have hl : r.length ≤ n:=by simp at h;omega
     rw [Cy9] at h1;split at h1
     ·have:=ih _ _ _ _ _ hl h1;simp;omega
     ·split at h1
      ·cases h1
      ·split at h1
       ·split at h1
        ·cases h1
        ·rename_i d hd
         have h5:=Yl9 hd;have:=ih _ _ _ _ _ hl h1;simp at this h5 ⊢;omega
       ·have:=ih _ _ _ _ _ hl h1;simp at this ⊢;omega
theorem Yj9 {ps : List (List UInt8)} {d : Db} {N : Nat} (h : Fg9 ps = some d) (hp : ∀ p,p ∈ ps→p.length ≤ N) : d.name.size ≤ N:=by
 rcases ps with _ | ⟨n,_ | ⟨a,_ | ⟨b,_ | ⟨c,_ | ⟨e,_ | ⟨f,ps⟩⟩⟩⟩⟩⟩
 ·cases h
 ·cases h
 ·cases h
 ·cases h
 ·cases h
 ·have h' : mk5 65535 n a b c e = some d:=h
  obtain ⟨_,rfl⟩:=Lp9 h';have:=hp n (by simp)
  show n.toArray.size ≤ N
  simpa using this
 ·cases h
theorem run_fit {N : Nat} : ∀ (n : Nat) (T cur : List UInt8) (ps : List (List UInt8)) (xs ys : List Db),T.length ≤ n→cur.length + T.length ≤ N + 1→(∀ p,p ∈ ps→p.length ≤ N)→(∀ d,d ∈ xs→d.name.size ≤ N)→Gq9 T cur ps xs = some ys→∀ d,d ∈ ys→d.name.size ≤ N:=by
 intro n;induction n with
 | zero =>
   intro T cur ps xs ys h _ _ hx h1;obtain rfl : T = []:=List.eq_nil_of_length_eq_zero (by omega)
   have h2 : some xs = some ys:=h1;injection h2 with h2;subst h2;exact hx
 | succ n ih =>
   intro T cur ps xs ys h hc hp hx h1;cases T with
   | nil =>
     have h2 : some xs = some ys:=h1;injection h2 with h2;subst h2;exact hx
   | cons b r =>
     have hl : r.length ≤ n:=by simp at h;omega
     have hcr : cur.length + r.length + 1 ≤ N + 1:=by simp at hc;omega
     have hp' : ∀ p, p ∈ ps ++ [cur] → p.length ≤ N := fun p h => by
       rcases List.mem_append.1 h with h | h
       ·exact hp p h
       ·rw [List.mem_singleton.1 h];omega
     rw [Cy9] at h1;split at h1
     ·exact ih _ _ _ _ _ hl (by simp;omega) hp hx h1
     ·split at h1
      ·cases h1
      ·split at h1
       ·split at h1
        ·cases h1
        ·rename_i d hd
         refine ih _ _ _ _ _ hl (by simp;omega) (fun p h => by cases h) (fun z hz => ?_) h1
         rcases List.mem_append.1 hz with h | h
         ·exact hx z h
         ·rw [List.mem_singleton.1 h];exact Yj9 hd hp'
       ·exact ih _ _ _ _ _ hl (by simp;omega) hp' hx h1
set_option maxRecDepth 100000 in
theorem Qw9 (s : ByteArray) (w : World) (ht : Tab w) (hg : w.cell? ⟨0,0,none⟩ = some (.iface 171 (.agg #[.pointer (some ⟨4,142,none⟩)]))) (hs : s.size ≤ 1048576) : Calls Tryz.prog 109 #[.string s] w (Oh9 w (Ir9 s.data.toList)):=by
 obtain ⟨res,hres⟩ : ∃ res,Ir9 s.data.toList = res:=⟨_,rfl⟩;have HR:=Lib.hid hres;rw [hres];have hsl : s.data.toList.length = s.size:=by simp
 have HSL:=Lib.hid hsl;have HG:=Lib.hid hg;have h0 : 0 < w.heap.size:=World.block_lt_of_cell? w ⟨0,0,none⟩ hg;clear hres hsl hg;go_enter Tryz.func109,Tryz.ntmps109
 go_wp2_with fail;refine (Sx9 s w ht (by omega)).mono ?_
 rintro e W1 (⟨hn,⟨n,rfl⟩,hb⟩ | ⟨A,c,xs,fp,hy,rfl,hown,hb⟩)
 ·have HN:=Lib.hid (show res = ([],false) by rw [← HR.out];unfold Ir9;rw [hn];rfl)
  clear hn;have hgA : (W1.alloc (.cells #[.int .i64 0] 146)).cell? ⟨0,0,none⟩ = some (.iface 171 (.agg #[.pointer (some ⟨4,142,none⟩)])):=(((Below.refl W1.heap.size W1).alloc (Nat.le_refl _) _).cell (show 0 < W1.heap.size by have:=hb.size;omega)).trans ((hb.cell h0).trans HG.out)
  have V:=heap_alloc_new W1 (.cells #[.int .i64 0] 146);have htA : (W1.alloc (.cells #[.int .i64 0] 146)).cell? ⟨W1.heap.size,0,none⟩ = some (.int .i64 0):=E9 V 0;have hfA : (W1.alloc (.cells #[.int .i64 0] 146)).frozen? ⟨W1.heap.size,0,none⟩ = false:=C9 V 0;have hbA : Below w.heap.size w (W1.alloc (.cells #[.int .i64 0] 146)):=hb.alloc hb.size _;have hb1:=hb.size;have C:=as_hit n ⟨W1.heap.size,0,none⟩ (.int .i64 0) _ hgA htA hfA;have HC:=Lib.hid C;clear C V hgA htA hfA;go_wp2_with fail;refine HC.out.mono ?_;rintro e W2 ⟨rfl,rfl⟩;have hb2 : Below w.heap.size w _:=Below.setCell ((((hbA.alloc hbA.size (.cells #[.pointer (some ⟨W1.heap.size,0,none⟩)] 148)).alloc (by simp;omega) (.cells #[.pointer (some ⟨4,148,none⟩),.pointer (some ⟨(W1.alloc (.cells #[.int .i64 0] 146)).heap.size,0,none⟩),.int .u64 150] 158)).alloc (by simp;omega) (.cells #[.pointer (some ⟨4,148,none⟩),.pointer (some ⟨(W1.alloc (.cells #[.int .i64 0] 146)).heap.size,0,none⟩),.int .u64 150] 158)).alloc (by simp;omega) (.cells #[.int .i64 n] 146)) (p:=⟨W1.heap.size,0,none⟩) hb1 (.int .i64 n)
  generalize hW : World.setCell _ _ _ = W3 at hb2 ⊢;clear hW HC;go_wp2_with fail;go_ret2
  exact Ho9 hb2 HN.out
 ·have hlen:=run_len _ _ _ _ _ _ (Nat.le_refl _) hy
  have hfit:=run_fit (N:=s.size) _ _ _ _ _ _ (Nat.le_refl _) (by simp) (fun p h => by cases h) (fun d h => by cases h) hy
  have HF:=Lib.hid (show Jq9 xs from ⟨by simp at hlen;omega,fun x hx => by have:=hfit x hx;omega⟩)
  obtain ⟨y,hyy⟩ : ∃ y,Bm9 xs = y:=⟨_,rfl⟩;have HRes:=Lib.hid (show res = if y = true then (xs,true) else ([],false) by rw [← HR.out,← hyy];unfold Ir9;rw [hy];rfl)
  have HY:=Lib.hid hyy;clear hy hlen hfit hyy;have hown2:=hown.alloc (.cells #[.int .i64 0] 146);have hbA : Below w.heap.size w (W1.alloc (.cells #[.int .i64 0] 146)):=hb.alloc hb.size _
  have hle : xs.length ≤ c := by
     obtain ⟨A',c',he,hle,_,_⟩:=hown.reads;injection he with _ _ he;omega
  have C:=as_nil (.iface 148 (.pointer (some ⟨W1.heap.size,0,none⟩))) (W1.alloc (.cells #[.int .i64 0] 146));have HC:=Lib.hid C;clear C;go_wp2_with fail;refine HC.out.mono ?_;generalize W1.alloc (.cells #[.int .i64 0] 146) = W3 at hown2 hbA ⊢;rintro e w9 ⟨rfl,rfl⟩;clear HC hown hb;obtain ⟨A',c',he,_,_,hrows⟩:=hown2.reads;injection he with he1 he2 he3;subst he1;clear he2 he3;have HO:=Lib.hid hown2;have C:=Yp9 A c xs _ hrows hle HF.out;have HC:=Lib.hid C;clear C hrows hown2;go_wp2_with fail;refine HC.out.mono ?_;rintro e W4 ⟨rfl,hb4⟩;rw [HY.out];have hb5:=hbA.trans (hb4.mono hbA.size);have hO4:=Lib.hid (HO.out.of_below hb4);clear HC hb4;cases y
  ·go_wp2_with fail
   go_ret2
   exact Ho9 hb5 HRes.out
  ·go_wp2_with fail
   go_ret2
   exact ⟨A,c,fp,by rw [HRes.out];rfl,by rw [HRes.out];exact ⟨_,rfl,hO4.out⟩,hb5⟩
def ErrG (w : World) : Prop:=w.cell? ⟨0,0,none⟩ = some (.iface 171 (.agg #[.pointer (some ⟨4,142,none⟩)]))
instance ErrG.keeps : Keeps ErrG:=⟨fun h x => (h.cell (World.block_lt_of_cell? _ _ x)).trans x⟩
def Given (w : World) : Prop:=Tab w∧ErrG w
instance Given.keeps : Keeps Given:=⟨fun h x => ⟨Keeps.keeps (F:=Tab) h x.1,Keeps.keeps (F:=ErrG) h x.2⟩⟩
theorem Tb9 (s : ByteArray) (w : World) (hg : Given w) (hs : s.size ≤ 1048576) : Calls Tryz.prog 109 #[.string s] w (Oh9 w (Cb9 s.data.toList)):=by
 rw [← Cx8];exact Qw9 s w hg.1 hg.2 hs
theorem Ao9 (s : ByteArray) (w : World) : Calls Tryz.prog 94 #[.string s] w (Y8 w (Fe9 s)):=by
 obtain ⟨p,hp⟩ : ∃ p,Cb9 s.data.toList = p:=⟨_,rfl⟩;have HT:=Lib.hid (show Fe9 s = p.2 by unfold Fe9;rw [hp])
 have HP:=Lib.hid hp;clear hp;unfold Y8;go_enter Tryz.func94,Tryz.ntmps94
 go_wp2_with fail;refine (Ou9 s w).mono ?_;rw [HP.out];rintro e W1 ⟨A0,c0,fp0,rfl,O0,hb⟩;clear O0;go_wp2_with fail;go_ret
 exact ⟨by rw [HT.out];rfl,hb⟩
theorem Ae9 (s : ByteArray) (w : World) (hg : Given w) (hs : s.size ≤ 1048576) {t : Bool} (ht : Fe9 s = t) : Calls Tryz.prog 84 #[.string s,.bool true] w (Y8 w t):=by
 obtain ⟨p,hp⟩ : ∃ p,Cb9 s.data.toList = p:=⟨_,rfl⟩;have HT:=Lib.hid (show p.2 = t by rw [← ht];unfold Fe9;rw [hp])
 have HP:=Lib.hid hp;clear hp ht;unfold Y8;go_enter Tryz.func84,Tryz.ntmps84
 go_wp2_with fail;refine (Tb9 s w hg hs).mono ?_;rw [HP.out];rintro e W1 ⟨A0,c0,fp0,rfl,O0,hb⟩;clear O0;go_wp2_with fail;go_ret
 exact ⟨by rw [HT.out];rfl,hb⟩
theorem Ed9 {s : ByteArray} (h : Ey9 s = true) : s = ⟨#[]⟩:=(Oz9 s).1 h
theorem Fo9 {s : ByteArray} (h : Ey9 s = false) : s.toList.isEmpty = false∧(s.toList == []) = false:=by
 have h1 : s.toList ≠ []:=fun e => by
  rw [Lib.toList_data] at e;unfold Ey9 at h;rw [e] at h;cases h
 exact ⟨by simpa using h1,by simpa using h1⟩
theorem Ab9 (s : ByteArray) (w : World) {t : Bool} (ht : Ey9 s = t) : Calls Tryz.prog 84 #[.string s,.bool false] w (Y8 w t):=by
 unfold Y8;cases t
 ·obtain ⟨h1,h2⟩:=Fo9 ht
  go_enter Tryz.func84,Tryz.ntmps84
  go_wp2_with fail;go_ret
  exact ⟨rfl,Below.refl _ _⟩
 ·obtain rfl:=Ed9 ht
  go_enter Tryz.func84,Tryz.ntmps84
  go_wp2_with fail;go_ret
  exact ⟨rfl,Below.refl _ _⟩
theorem By9 (r : Rec) (w : World) : Calls Tryz.prog 59 #[.agg (M8 r).toArray] w (Y8 w (Ak9 r)):=by
 obtain ⟨b0,h0⟩ : ∃ b,inI r.n 1 60000 = b:=⟨_,rfl⟩;obtain ⟨o0,p0⟩ : ∃ b,(r.owner == 0) = b:=⟨_,rfl⟩;obtain ⟨o1,p1⟩ : ∃ b,inI r.owner 0 1 = b:=⟨_,rfl⟩;obtain ⟨t,ht⟩ : ∃ b,Fe9 r.text = b:=⟨_,rfl⟩;obtain ⟨n,hn⟩ : ∃ b,Ey9 r.text = b:=⟨_,rfl⟩;have HC:=Lib.hid (show Ak9 r = (b0 && if r.kind = 1 then o0 && t else if r.kind = 2 then o0 && n else decide (r.kind = 3) && (o1 && n)) by
  unfold Ak9;rw [ht,hn,← h0,← p0,← p1];rfl)
 have HT:=Lib.hid ht;clear ht;unfold M8 Y8;cases b0
 ·go_enter Tryz.func59,Tryz.ntmps59
  go_wp2_with (go_at_call 62;refine (M7 (by assumption) _).mono ?_;rintro e w' ⟨rfl,rfl⟩)
  go_ret
  exact ⟨by rw [HC.out];simp,(Below.refl _ _).alloc (Nat.le_refl _) _⟩
 ·by_cases k1 : r.kind = 1
  ·have q1 : (r.kind == 1) = true:=by simpa using k1
   have HK:=Lib.hid k1;clear k1;cases o0
   ·go_enter Tryz.func59,Tryz.ntmps59
    go_wp2_with (go_at_call 62;refine (M7 (by assumption) _).mono ?_;rintro e w' ⟨rfl,rfl⟩)
    go_ret
    exact ⟨by rw [HC.out,HK.out];simp,(Below.refl _ _).alloc (Nat.le_refl _) _⟩
   ·go_enter Tryz.func59,Tryz.ntmps59
    go_wp2_with (first
         | (go_at_call 62;refine (M7 (by assumption) _).mono ?_;rintro e w' ⟨rfl,rfl⟩)
         | (go_at_call 94;refine (Ao9 _ _).mono ?_;rintro e w2 ⟨rfl,hb2⟩))
    go_ret
    exact ⟨by rw [HC.out,HK.out,HT.out];simp,((Below.refl _ _).alloc (Nat.le_refl _) _).trans (hb2.mono (by simp))⟩
  ·have q1 : (r.kind == 1) = false:=by simpa using k1
   have HK1:=Lib.hid k1;clear k1;by_cases k2 : r.kind = 2
   ·have q2 : (r.kind == 2) = true:=by simpa using k2
    have HK:=Lib.hid k2;clear k2;cases o0
    ·go_enter Tryz.func59,Tryz.ntmps59
     go_wp2_with (go_at_call 62;refine (M7 (by assumption) _).mono ?_;rintro e w' ⟨rfl,rfl⟩)
     go_ret
     exact ⟨by rw [HC.out,HK.out];simp,(Below.refl _ _).alloc (Nat.le_refl _) _⟩
    ·cases n
     ·obtain ⟨e1,e2⟩:=Fo9 hn
      go_enter Tryz.func59,Tryz.ntmps59
      go_wp2_with (go_at_call 62;refine (M7 (by assumption) _).mono ?_;rintro e w' ⟨rfl,rfl⟩)
      go_ret
      exact ⟨by rw [HC.out,HK.out];simp,(Below.refl _ _).alloc (Nat.le_refl _) _⟩
     ·have HN:=Ed9 hn
      rw [HN];clear HN;go_enter Tryz.func59,Tryz.ntmps59
      go_wp2_with (go_at_call 62;refine (M7 (by assumption) _).mono ?_;rintro e w' ⟨rfl,rfl⟩)
      go_ret
      exact ⟨by rw [HC.out,HK.out];simp,(Below.refl _ _).alloc (Nat.le_refl _) _⟩
   ·have q2 : (r.kind == 2) = false:=by simpa using k2
    have HK2:=Lib.hid k2;clear k2;by_cases k3 : r.kind = 3
    ·have q3 : (r.kind == 3) = true:=by simpa using k3
     have HK:=Lib.hid k3;clear k3;cases o1
     ·go_enter Tryz.func59,Tryz.ntmps59
      go_wp2_with (go_at_call 62;refine (M7 (by assumption) _).mono ?_;rintro e w' ⟨rfl,rfl⟩)
      go_ret
      exact ⟨by rw [HC.out,HK.out];simp,(Below.refl _ _).alloc (Nat.le_refl _) _⟩
     ·cases n
      ·obtain ⟨e1,e2⟩:=Fo9 hn
       go_enter Tryz.func59,Tryz.ntmps59
       go_wp2_with (go_at_call 62;refine (M7 (by assumption) _).mono ?_;rintro e w' ⟨rfl,rfl⟩)
       go_ret
       exact ⟨by rw [HC.out,HK.out];simp,(Below.refl _ _).alloc (Nat.le_refl _) _⟩
      ·have HN:=Ed9 hn
       rw [HN];clear HN;go_enter Tryz.func59,Tryz.ntmps59
       go_wp2_with (go_at_call 62;refine (M7 (by assumption) _).mono ?_;rintro e w' ⟨rfl,rfl⟩)
       go_ret
       exact ⟨by rw [HC.out,HK.out];simp,(Below.refl _ _).alloc (Nat.le_refl _) _⟩
    ·have q3 : (r.kind == 3) = false:=by simpa using k3
     have HK3:=Lib.hid k3;clear k3;go_enter Tryz.func59,Tryz.ntmps59
     go_wp2_with (go_at_call 62;refine (M7 (by assumption) _).mono ?_;rintro e w' ⟨rfl,rfl⟩)
     go_ret
     exact ⟨by rw [HC.out,if_neg HK1.out,if_neg HK2.out,decide_eq_false HK3.out];simp,(Below.refl _ _).alloc (Nat.le_refl _) _⟩
def Vq9 : Value:=.agg #[.int .i64 1,.int .i64 0,.bool true,.func (.func 85) #[] #[]]
def Lr9 : Value:=.agg #[.int .i64 2,.int .i64 0,.bool false,.func (.func 86) #[] #[]]
def Pn9 : Value:=.agg #[.int .i64 3,.int .i64 1,.bool false,.func (.func 87) #[] #[]]
def kNone : Value:=.agg #[.int .i64 0,.int .i64 0,.bool false,.nilFunc]
theorem Xw9 (w : World) : Calls Tryz.prog 45 #[.int .i64 1] w fun e w' => e = .returned (.tuple #[Vq9,.bool true])∧Below w.heap.size w w':=by
 unfold Vq9;go_enter Tryz.func45,Tryz.ntmps45
 go_wp2
 refine wp_loop_rounds 1 ?_;rw [rounds_succ];go_wp2
 refine bodyPost_ret (v:=.tuple #[.agg #[.int .i64 1,.int .i64 0,.bool true,.func (.func 85) #[] #[]],.bool true]) (by simp [results,Tryz.results45,go_sem]) rfl ⟨rfl,?_⟩
 repeat (first | exact Below.refl _ _ | (refine Below.setCell ?_ (by simp <;> omega) _) | (refine Below.alloc ?_ (by simp <;> omega) _))
theorem Xv9 (w : World) : Calls Tryz.prog 45 #[.int .i64 2] w fun e w' => e = .returned (.tuple #[Lr9,.bool true])∧Below w.heap.size w w':=by
 unfold Lr9;go_enter Tryz.func45,Tryz.ntmps45
 go_wp2
 refine wp_loop_rounds 2 ?_;rw [rounds_succ];go_wp2
 rw [rounds_succ];go_wp2
 refine bodyPost_ret (v:=.tuple #[.agg #[.int .i64 2,.int .i64 0,.bool false,.func (.func 86) #[] #[]],.bool true]) (by simp [results,Tryz.results45,go_sem]) rfl ⟨rfl,?_⟩
 repeat (first | exact Below.refl _ _ | (refine Below.setCell ?_ (by simp <;> omega) _) | (refine Below.alloc ?_ (by simp <;> omega) _))
theorem Xu9 (w : World) : Calls Tryz.prog 45 #[.int .i64 3] w fun e w' => e = .returned (.tuple #[Pn9,.bool true])∧Below w.heap.size w w':=by
 unfold Pn9;go_enter Tryz.func45,Tryz.ntmps45
 go_wp2
 refine wp_loop_rounds 3 ?_;rw [rounds_succ];go_wp2
 rw [rounds_succ];go_wp2
 rw [rounds_succ];go_wp2
 refine bodyPost_ret (v:=.tuple #[.agg #[.int .i64 3,.int .i64 1,.bool false,.func (.func 87) #[] #[]],.bool true]) (by simp [results,Tryz.results45,go_sem]) rfl ⟨rfl,?_⟩
 repeat (first | exact Below.refl _ _ | (refine Below.setCell ?_ (by simp <;> omega) _) | (refine Below.alloc ?_ (by simp <;> omega) _))
theorem Be8 (k : Int) (h1 : k ≠ 1) (h2 : k ≠ 2) (h3 : k ≠ 3) (w : World) : Calls Tryz.prog 45 #[.int .i64 k] w fun e w' => e = .returned (.tuple #[kNone,.bool false])∧Below w.heap.size w w':=by
 have q1 : ((1 : Int) == k) = false:=by simp;omega
 have q2 : ((2 : Int) == k) = false:=by simp;omega
 have q3 : ((3 : Int) == k) = false:=by simp;omega
 clear h1 h2 h3;unfold kNone;go_enter Tryz.func45,Tryz.ntmps45
 go_wp2
 refine wp_loop_rounds 4 ?_;rw [rounds_succ];go_wp2
 rw [rounds_succ];go_wp2
 rw [rounds_succ];go_wp2
 rw [rounds_succ];go_wp2
 refine bodyPost_ret (v:=.tuple #[.agg #[.int .i64 0,.int .i64 0,.bool false,.nilFunc],.bool false]) (by simp [results,Tryz.results45,go_sem]) rfl ⟨rfl,?_⟩
 repeat (first | exact Below.refl _ _ | (refine Below.setCell ?_ (by simp <;> omega) _) | (refine Below.alloc ?_ (by simp <;> omega) _))
theorem Cr8 (n owner : Int) (text : ByteArray) (w : World) (hg : Given w) (hs : text.size ≤ 1048576) {b0 b1 b2 : Bool} (h0 : inI n 1 60000 = b0) (h1 : inI owner 0 0 = b1) (h2 : Fe9 text = b2) :
 Calls Tryz.prog 44 #[.agg #[.int .i64 1,.int .i64 n,.int .i64 owner,.string text]] w (Y8 w (b0 && (b1 && b2))):=by
 have HG:=Lib.hid hg;have H2:=Lib.hid h2;clear hg h2;unfold Y8;cases b0;rotate_left;cases b1;rotate_left;all_goals
  go_enter Tryz.func44,Tryz.ntmps44
  go_wp2_with fail;refine (Xw9 _).mono ?_;rintro e w2 ⟨rfl,hb2⟩;unfold Vq9;obtain ⟨hc,hf⟩:=F7 hb2;have hz : w.heap.size < w2.heap.size:=by have:=hb2.size;simp at this;omega
  have hb0 : Below w.heap.size w w2:=((Below.refl _ _).alloc (Nat.le_refl _) _).trans (hb2.mono (by simp))
  have HG2:=Lib.hid (Keeps.keeps (F:=Given) hb0 HG.out);clear hb2;go_wp2_with (first
   | (go_at_call 77;refine (L8 (by assumption) _).mono ?_;rintro e w' ⟨rfl,rfl⟩)
   | (go_at_call 84
      refine (Ae9 _ _ (Keeps.keeps (F:=Given) (Later.alloc w2 _) HG2.out) hs H2.out).mono ?_;rintro e w3 ⟨rfl,hb3⟩))
  all_goals first
   | (go_ret;refine ⟨by simp,hb0.trans (Below.mono ?_ hb0.size)⟩;(repeat (first | exact Below.refl _ _ | (refine Below.setCell ?_ (by simp <;> omega) _) | (refine Below.alloc ?_ (by simp <;> omega) _)));done)
   | (go_ret;refine ⟨by simp,Later.trans (Later.trans (w1:=w2) hb0 ?_) hb3⟩;show Below w2.heap.size w2 _;(repeat (first | exact Below.refl _ _ | (refine Below.setCell ?_ (by simp <;> omega) _) | (refine Below.alloc ?_ (by simp <;> omega) _)));done)
   | (show Below w2.heap.size w2 _;(repeat (first | exact Below.refl _ _ | (refine Below.setCell ?_ (by simp <;> omega) _) | (refine Below.alloc ?_ (by simp <;> omega) _)));done)
theorem Cq8 (n owner : Int) (text : ByteArray) (w : World) (hg : Given w) (hs : text.size ≤ 1048576) {b0 b1 b2 : Bool} (h0 : inI n 1 60000 = b0) (h1 : inI owner 0 0 = b1) (h2 : Ey9 text = b2) :
 Calls Tryz.prog 44 #[.agg #[.int .i64 2,.int .i64 n,.int .i64 owner,.string text]] w (Y8 w (b0 && (b1 && b2))):=by
 have HG:=Lib.hid hg;have H2:=Lib.hid h2;clear hg h2;unfold Y8;cases b0;rotate_left;cases b1;rotate_left;all_goals
  go_enter Tryz.func44,Tryz.ntmps44
  go_wp2_with fail;refine (Xv9 _).mono ?_;rintro e w2 ⟨rfl,hb2⟩;unfold Lr9;obtain ⟨hc,hf⟩:=F7 hb2;have hz : w.heap.size < w2.heap.size:=by have:=hb2.size;simp at this;omega
  have hb0 : Below w.heap.size w w2:=((Below.refl _ _).alloc (Nat.le_refl _) _).trans (hb2.mono (by simp))
  have HG2:=Lib.hid (Keeps.keeps (F:=Given) hb0 HG.out);clear hb2;go_wp2_with (first
   | (go_at_call 77;refine (L8 (by assumption) _).mono ?_;rintro e w' ⟨rfl,rfl⟩)
   | (go_at_call 84
      refine (Ab9 _ _ H2.out).mono ?_;rintro e w3 ⟨rfl,hb3⟩))
  all_goals first
   | (go_ret;refine ⟨by simp,hb0.trans (Below.mono ?_ hb0.size)⟩;(repeat (first | exact Below.refl _ _ | (refine Below.setCell ?_ (by simp <;> omega) _) | (refine Below.alloc ?_ (by simp <;> omega) _)));done)
   | (go_ret;refine ⟨by simp,Later.trans (Later.trans (w1:=w2) hb0 ?_) hb3⟩;show Below w2.heap.size w2 _;(repeat (first | exact Below.refl _ _ | (refine Below.setCell ?_ (by simp <;> omega) _) | (refine Below.alloc ?_ (by simp <;> omega) _)));done)
   | (show Below w2.heap.size w2 _;(repeat (first | exact Below.refl _ _ | (refine Below.setCell ?_ (by simp <;> omega) _) | (refine Below.alloc ?_ (by simp <;> omega) _)));done)
theorem Cp8 (n owner : Int) (text : ByteArray) (w : World) (hg : Given w) (hs : text.size ≤ 1048576) {b0 b1 b2 : Bool} (h0 : inI n 1 60000 = b0) (h1 : inI owner 0 1 = b1) (h2 : Ey9 text = b2) :
 Calls Tryz.prog 44 #[.agg #[.int .i64 3,.int .i64 n,.int .i64 owner,.string text]] w (Y8 w (b0 && (b1 && b2))):=by
 have HG:=Lib.hid hg;have H2:=Lib.hid h2;clear hg h2;unfold Y8;cases b0;rotate_left;cases b1;rotate_left;all_goals
  go_enter Tryz.func44,Tryz.ntmps44
  go_wp2_with fail;refine (Xu9 _).mono ?_;rintro e w2 ⟨rfl,hb2⟩;unfold Pn9;obtain ⟨hc,hf⟩:=F7 hb2;have hz : w.heap.size < w2.heap.size:=by have:=hb2.size;simp at this;omega
  have hb0 : Below w.heap.size w w2:=((Below.refl _ _).alloc (Nat.le_refl _) _).trans (hb2.mono (by simp))
  have HG2:=Lib.hid (Keeps.keeps (F:=Given) hb0 HG.out);clear hb2;go_wp2_with (first
   | (go_at_call 77;refine (L8 (by assumption) _).mono ?_;rintro e w' ⟨rfl,rfl⟩)
   | (go_at_call 84
      refine (Ab9 _ _ H2.out).mono ?_;rintro e w3 ⟨rfl,hb3⟩))
  all_goals first
   | (go_ret;refine ⟨by simp,hb0.trans (Below.mono ?_ hb0.size)⟩;(repeat (first | exact Below.refl _ _ | (refine Below.setCell ?_ (by simp <;> omega) _) | (refine Below.alloc ?_ (by simp <;> omega) _)));done)
   | (go_ret;refine ⟨by simp,Later.trans (Later.trans (w1:=w2) hb0 ?_) hb3⟩;show Below w2.heap.size w2 _;(repeat (first | exact Below.refl _ _ | (refine Below.setCell ?_ (by simp <;> omega) _) | (refine Below.alloc ?_ (by simp <;> omega) _)));done)
   | (show Below w2.heap.size w2 _;(repeat (first | exact Below.refl _ _ | (refine Below.setCell ?_ (by simp <;> omega) _) | (refine Below.alloc ?_ (by simp <;> omega) _)));done)
theorem Uw9 (k n owner : Int) (text : ByteArray) (w : World) (k1 : k ≠ 1) (k2 : k ≠ 2) (k3 : k ≠ 3) :
 Calls Tryz.prog 44 #[.agg #[.int .i64 k,.int .i64 n,.int .i64 owner,.string text]] w (Y8 w false):=by
 have hk:=fun w => Be8 k k1 k2 k3 w
 clear k1 k2 k3;unfold Y8;go_enter Tryz.func44,Tryz.ntmps44
 go_wp2_with fail;refine (hk _).mono ?_;clear hk;rintro e w2 ⟨rfl,hb2⟩;unfold kNone;obtain ⟨hc,hf⟩:=F7 hb2;have hz : w.heap.size < w2.heap.size:=by have:=hb2.size;simp at this;omega
 have hb0 : Below w.heap.size w w2:=((Below.refl _ _).alloc (Nat.le_refl _) _).trans (hb2.mono (by simp))
 clear hb2;go_wp2_with fail;go_ret
 refine ⟨rfl,hb0.trans (Below.mono ?_ hb0.size)⟩;repeat (first | exact Below.refl _ _ | (refine Below.setCell ?_ (by simp <;> omega) _) | (refine Below.alloc ?_ (by simp <;> omega) _))
theorem Cf9 (r : Rec) (w : World) (hg : Given w) (hs : r.text.size ≤ 1048576) : Calls Tryz.prog 44 #[.agg (M8 r).toArray] w (Y8 w (Ak9 r)):=by
 obtain ⟨k,n,o,t⟩:=r;show Calls Tryz.prog 44 #[.agg #[.int .i64 k,.int .i64 n,.int .i64 o,.string t]] w (Y8 w _)
 have e0 : inI o 0 0 = decide (o = 0):=by unfold inI;by_cases h : o = 0 <;> simp [h] <;> omega
 by_cases k1 : k = 1
 ·subst k1
  have:=Cr8 n o t w hg hs rfl rfl rfl;rw [e0] at this;exact this
 ·by_cases k2 : k = 2
  ·subst k2
   have:=Cq8 n o t w hg hs rfl rfl rfl;rw [e0] at this;exact this
  ·by_cases k3 : k = 3
   ·subst k3
    exact Cp8 n o t w hg hs rfl rfl rfl
   ·have:=Uw9 k n o t w k1 k2 k3
    have e : Ak9 ⟨k,n,o,t⟩ = false:=by unfold Ak9;simp [k1,k2,k3]
    rw [e];exact this
theorem Gz9 {g p : Int} {r : Rec} (h : Ak9 r = false ∨ inI g 0 65535 = false ∨ inI p 0 65535 = false) : Ah9 g p r = []:=by
 unfold Ah9;refine if_neg fun hc => ?_
 rcases h with h | h | h
 ·rw [hc.1] at h;cases h
 ·exact absurd hc.2.1 (of_decide_eq_false h)
 ·exact absurd hc.2.2 (of_decide_eq_false h)
theorem Zj9 {g p : Int} {r : Rec} (h0 : Ak9 r = true) (h1 : inI g 0 65535 = true) (h2 : inI p 0 65535 = true) : Ah9 g p r = Q7 (X7 g p r):=if_pos ⟨h0,of_decide_eq_true h1,of_decide_eq_true h2⟩
theorem Reads.up {w : World} {size n : Nat} {A : Option Addr} {xs : List Value} (h : Reads w w.heap.size size A n xs) (o : Obj) : Reads (w.alloc o) (w.alloc o).heap.size size A n xs:=(h.alloc (Nat.le_refl _) o).more (by simp)
def BOX (w : World) (r : Rec) (w' : World) : Prop:=Below w.heap.size w w'∧Given w'∧Hid (w'.heap[w.heap.size]? = some (.cells (M8 r).toArray 29 (0,0)))
instance BOX.keeps (w : World) (r : Rec) : Keeps (BOX w r):=⟨fun h x => ⟨Later.trans x.1 h,Keeps.keeps (F:=Given) h x.2.1,Lib.hid (Keeps.keeps (F:=fun w' => w'.heap[w.heap.size]? = some (.cells (M8 r).toArray 29 (0,0))) h x.2.2.out)⟩⟩
theorem Wv9 {w w' : World} {r : Rec} (s : All (BOX w r) w') : w'.cell? ⟨w.heap.size,0,none⟩ = some (.int .i64 r.kind)∧w'.cell? ⟨w.heap.size,1,none⟩ = some (.int .i64 r.n):=⟨(J9 s.out.2.2.out).1,(J9 s.out.2.2.out).2.1⟩
theorem Wu9 {w w' : World} {r : Rec} (s : All (BOX w r) w') : w'.cell? ⟨w.heap.size,2,none⟩ = some (.int .i64 r.owner)∧w'.cell? ⟨w.heap.size,3,none⟩ = some (.string r.text):=⟨(J9 s.out.2.2.out).2.2.1,(J9 s.out.2.2.out).2.2.2⟩
theorem Cq9 {l l' : List UInt8} {n : Nat} (h : l.length = n) (x : UInt8) : (l ++ [x]).length = n + 1:=by simp [h]
set_option maxRecDepth 100000 in
theorem Mk9 (g p : Int) (r : Rec) (w : World) (hg : Given w) (hs : r.text.size ≤ 1048576) {b0 b1 b2 : Bool} (h0 : Ak9 r = b0) (h1 : inI g 0 65535 = b1) (h2 : inI p 0 65535 = b2) (hb : (b0 && (b1 && b2)) = false) :
 Calls Tryz.prog 93 #[.int .i64 g,.int .i64 p,.agg (M8 r).toArray] w (Gv9 w []):=by
 have S : All (BOX w r) (w.alloc (.cells #[.int .i64 r.kind,.int .i64 r.n,.int .i64 r.owner,.string r.text] 29)):=⟨Later.alloc w _,Keeps.keeps (F:=Given) (Later.alloc w _) hg,Lib.hid (heap_alloc_new w _)⟩;have H0:=Lib.hid h0;clear hg h0;show Calls Tryz.prog 93 #[.int .i64 g,.int .i64 p,.agg #[.int .i64 r.kind,.int .i64 r.n,.int .i64 r.owner,.string r.text]] w _
 cases b0;rotate_left;cases b1;rotate_left;cases b2;rotate_left
 ·cases hb
 all_goals
  clear hb;go_enter Tryz.func93,Tryz.ntmps93
  go_wp2_with fail;generalize w.alloc (.cells #[.int .i64 r.kind,.int .i64 r.n,.int .i64 r.owner,.string r.text] 29) = W at S ⊢;refine (Cf9 r W S.out.2.1 hs).mono ?_;rw [H0.out];rintro e W1 ⟨rfl,hb⟩;replace S:=S.later hb;clear hb;go_wp2_with (go_at_call 77;refine (L8 (by assumption) _).mono ?_;rintro e w' ⟨rfl,rfl⟩)
  go_ret
  exact ⟨_,rfl,En9 W1 _ S.out.1.size,Below.alloc S.out.1 S.out.1.size _⟩
set_option maxRecDepth 100000 in
theorem Cv8 (g p : Int) (r : Rec) (w : World) (hg : Given w) (hs : r.text.size ≤ 1048576) (h0 : Ak9 r = true) (h1 : inI g 0 65535 = true) (h2 : inI p 0 65535 = true) :
 Calls Tryz.prog 93 #[.int .i64 g,.int .i64 p,.agg (M8 r).toArray] w (Gv9 w (Q7 (X7 g p r))):=by
 have S : All (BOX w r) (w.alloc (.cells #[.int .i64 r.kind,.int .i64 r.n,.int .i64 r.owner,.string r.text] 29)):=⟨Later.alloc w _,Keeps.keeps (F:=Given) (Later.alloc w _) hg,Lib.hid (heap_alloc_new w _)⟩;have H0:=Lib.hid h0;clear hg h0;show Calls Tryz.prog 93 #[.int .i64 g,.int .i64 p,.agg #[.int .i64 r.kind,.int .i64 r.n,.int .i64 r.owner,.string r.text]] w _
 go_enter Tryz.func93,Tryz.ntmps93
 go_wp2_with fail;generalize w.alloc (.cells #[.int .i64 r.kind,.int .i64 r.n,.int .i64 r.owner,.string r.text] 29) = W at S ⊢;refine (Cf9 r W S.out.2.1 hs).mono ?_;rw [H0.out];rintro e W1 ⟨rfl,hb⟩;replace S:=S.later hb;clear hb;go_wp2_with (go_at_call 77;refine (L8 (by assumption) _).mono ?_;rintro e w' ⟨rfl,rfl⟩)
 clear h1 h2;refine (Cs9 none 0 g [] W1 Reads.none_ (by simp)).mono ?_
 rintro e W2 ⟨v2,rfl,o2,hb⟩;replace S:=S.later hb;obtain ⟨A2,c2,rfl,_,_,r2,_⟩:=o2.shape;clear hb o2;go_wp2_with fail;refine (Cs9 A2 c2 p _ W2 r2 (by simp [F9])).mono ?_
 rintro e W3 ⟨v3,rfl,o3,hb⟩;replace S:=S.later hb;obtain ⟨A3,c3,rfl,_,_,r3,_⟩:=o3.shape;have L3:=Lib.hid (show ([] ++ F9 g ++ F9 p).length = 4 by simp [F9])
 generalize hl3 : [] ++ F9 g ++ F9 p = l3 at r3 L3 ⊢;clear hb o3 r2;go_wp2_with fail;refine M9 100 [0,1,2,3,6,7] [4,5,8,9] (fun w' => w'.cell? ⟨w.heap.size,0,none⟩ = some (.int .i64 r.kind)∧w'.cell? ⟨w.heap.size,1,none⟩ = some (.int .i64 r.n)) (by kernel_rfl) (by kernel_rfl) (Wv9 S.drew) ?_
 replace S:=S.drew;replace r3 : Reads W3.drew W3.drew.heap.size 1 A3 l3.length (bys l3):=r3;generalize W3.drew = W4 at S r3 ⊢;iterate 6 (refine LexR.cons rfl ?_ (fun w' hw => ?_) ?_;rotate_left;focus (obtain ⟨e0,e1⟩:=hw;go_simp;(try exact rfl));(try go_frame))
 refine LexR.nil (LexW.cons rfl ?_);go_wp2_with fail;have u5:=Ec9 W4 r.kind;replace r3:=r3.up (.cells #[.int .u8 (r.kind % 256)] 5);replace S:=S.alloc (.cells #[.int .u8 (r.kind % 256)] 5);refine ⟨fun _ => Wv9 S,LexW.cons rfl ?_⟩
 generalize W4.alloc (.cells #[.int .u8 (r.kind % 256)] 5) = W4a at S r3 u5 ⊢;try go_frame
 go_wp2_with fail;refine (Ep9 A3 _ c3 1 l3 [u8 r.kind] W4a r3 u5 (by have:=L3.out;omega) (by simp)).mono ?_
 rintro e W4b ⟨v5,rfl,o5,hb⟩;replace S:=S.later hb;obtain ⟨A5,c5,rfl,_,_,r5,_⟩:=o5.shape;have L5:=Lib.hid (Cq9 (l':=[]) L3.out (u8 r.kind));generalize hl5 : l3 ++ [u8 r.kind] = l5 at r5 L5 ⊢;clear hb o5 r3 u5;go_wp2_with fail;refine ⟨fun _ => Wv9 S,LexW.cons rfl ?_⟩
 try go_frame
 go_wp2_with fail;refine (Cs9 A5 c5 r.n l5 W4b r5 (by have:=L5.out;omega)).mono ?_
 rintro e W4c ⟨v5',rfl,o5',hb⟩;replace S:=S.later hb;obtain ⟨A5',c5',rfl,_,_,r5',_⟩:=o5'.shape;have L5':=Lib.hid (show (l5 ++ F9 r.n).length = 7 by have:=L5.out;simp [F9];omega)
 generalize hl5' : l5 ++ F9 r.n = l5' at r5' L5' ⊢;clear hb o5' r5;go_wp2_with fail;refine ⟨fun _ => Wv9 S,LexW.cons rfl ?_⟩
 try go_frame
 go_wp2_with fail;refine ⟨fun _ => Wv9 S,LexW.nil ?_⟩
 go_wp2_with fail;refine M9 100 [0,1,2,3,6,7] [4,5,8,9] (fun w' => w'.cell? ⟨w.heap.size,2,none⟩ = some (.int .i64 r.owner)∧w'.cell? ⟨w.heap.size,3,none⟩ = some (.string r.text)) (by kernel_rfl) (by kernel_rfl) (Wu9 S.drew) ?_
 replace S:=S.drew;replace r5' : Reads W4c.drew W4c.drew.heap.size 1 A5' l5'.length (bys l5'):=r5';generalize W4c.drew = W6 at S r5' ⊢;iterate 6 (refine LexR.cons rfl ?_ (fun w' hw => ?_) ?_;rotate_left;focus (obtain ⟨e0,e1⟩:=hw;go_simp;(try exact rfl));(try go_frame))
 refine LexR.nil (LexW.cons rfl ?_);go_wp2_with fail;have u7:=Ec9 W6 r.owner;replace r5':=r5'.up (.cells #[.int .u8 (r.owner % 256)] 5);replace S:=S.alloc (.cells #[.int .u8 (r.owner % 256)] 5);refine ⟨fun _ => Wu9 S,LexW.cons rfl ?_⟩
 generalize W6.alloc (.cells #[.int .u8 (r.owner % 256)] 5) = W6a at S r5' u7 ⊢;try go_frame
 go_wp2_with fail;refine (Ep9 A5' _ c5' 1 l5' [u8 r.owner] W6a r5' u7 (by have:=L5'.out;omega) (by simp)).mono ?_
 rintro e W6b ⟨v7,rfl,o7,hb⟩;replace S:=S.later hb;obtain ⟨A7,c7,rfl,_,_,r7,_⟩:=o7.shape;have L7:=Lib.hid (Cq9 (l':=[]) L5'.out (u8 r.owner));generalize hl7 : l5' ++ [u8 r.owner] = l7 at r7 L7 ⊢;clear hb o7 r5' u7;go_wp2_with fail;refine ⟨fun _ => Wu9 S,LexW.cons rfl ?_⟩
 try go_frame
 go_wp2_with fail;refine (Va9 A7 c7 r.text l7 W6b r7 (by have:=L7.out;omega) (by omega)).mono ?_
 rintro e W6c ⟨v7',rfl,o7',hb⟩;replace S:=S.later hb;obtain ⟨A7',c7',rfl,_,_,r7',_⟩:=o7'.shape;have L7':=Lib.hid (show (ptB l7 r.text.data.toList).length ≤ 109 by have:=L7.out;have:=Ev9 l7 r.text.data.toList;omega)
 generalize hl7' : ptB l7 r.text.data.toList = l7' at r7' L7' ⊢;clear hb o7' r7;go_wp2_with fail;refine ⟨fun _ => Wu9 S,LexW.cons rfl ?_⟩
 try go_frame
 go_wp2_with fail;refine ⟨fun _ => Wu9 S,LexW.nil ?_⟩
 go_wp2_with fail;have HSZ:=Lib.hid S.out.1.size;refine (Zg9 A7' c7' l7' W6c r7' (by have:=L7'.out;omega)).mono ?_
 rintro e W8 ⟨rfl,rfl⟩;go_wp2_with fail;refine (Cs9 A7' c7' (crc l7') l7' W6c r7' (by have:=L7'.out;omega)).mono ?_
 rintro e W9 ⟨v9,rfl,o9,hb⟩;replace S:=S.later hb;have hsz:=S.out.1;have HE:=Lib.hid (show l7' ++ F9 (crc l7') = Q7 (X7 g p r) by
  rw [← hl7',← hl7,← hl5',← hl5,← hl3];unfold Q7 X7;simp)
 have hb6:=Nat.le_trans hsz.size (Nat.le_refl _);clear hl7' hl7 hl5' hl5 hl3;have O9:=ownsRow_mono o9 HSZ.out;clear hb o9;go_wp2_with fail;go_ret
 exact ⟨v9,rfl,by rw [← HE.out];exact O9,hsz⟩
theorem Rh9 (g p : Int) (r : Rec) (w : World) (hg : Given w) (hs : r.text.size ≤ 1048576) : Calls Tryz.prog 93 #[.int .i64 g,.int .i64 p,.agg (M8 r).toArray] w (Gv9 w (Ah9 g p r)):=by
 cases h0 : Ak9 r
 ·rw [Gz9 (.inl h0)];exact Mk9 g p r w hg hs h0 rfl rfl rfl
 ·cases h1 : inI g 0 65535
  ·rw [Gz9 (.inr (.inl h1))];exact Mk9 g p r w hg hs h0 h1 rfl rfl
  ·cases h2 : inI p 0 65535
   ·rw [Gz9 (.inr (.inr h2))];exact Mk9 g p r w hg hs h0 h1 h2 rfl
   ·rw [Zj9 h0 h1 h2];exact Cv8 g p r w hg hs h0 h1 h2
theorem Ex9 (g p : Int) (r : Rec) : (Ah9 g p r).length ≤ 111:=by
 unfold Ah9;split
 ·rw [Uf9]
  unfold X7;have:=Ev9 ((((F9 g ++ F9 p) ++ [u8 r.kind]) ++ F9 r.n) ++ [u8 r.owner]) r.text.data.toList;have e : ((((F9 g ++ F9 p) ++ [u8 r.kind]) ++ F9 r.n) ++ [u8 r.owner]).length = 8:=by simp [F9]
  omega
 ·simp
end Go.Proofs.YthpkdjflndiojaaGreatDoor
