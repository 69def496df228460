/- IAs7 -/
import Derived.Test.YtjbmgghehdemdaaGreatDoorMS32
import Derived.LaidEql
import Derived.Stop.Asserts
import Derived.RowKitTokens
namespace Go.Proofs.YtjbmgghehdemdaaGreatDoor
set_option maxRecDepth 100000
set_option maxHeartbeats 16000000
open _root_.Go.Proofs.Tryz
open Go.RowKit Go.Extern.Stop Go.Stop Go.Extern
theorem av2 (t:Value) (w:World) :
  Calls prog 47 #[.nilIface,t] w fun e w'=>e=.returned (.bool false)/\w'=w:=by
 go_enter func47,ntmps47;go_wp2;go_ret;exact⟨rfl,rfl⟩
theorem av4 (t:Addr) (w:World):(ReflectliteValue.unpack (.iface 100 (.pointer (some t)))).run prog w
  = .ok (.agg #[.pointer (some ⟨12,100,none⟩),.pointer (some ⟨w.heap.size,0,none⟩),.int .u64 150]) (w.alloc (.cells #[.pointer (some t)] 100)):=by kernel_rfl
theorem av3 (a:Addr) (w:World):(ReflectliteValue.methodAny (ReflectliteValue.valueError "reflectlite.Value.Type" 0) (fun t _ _ _=>ReflectliteType.toType t) #[.agg #[.pointer (some ⟨12,100,none⟩),.pointer (some a),.int .u64 150]]).run prog w
  = .ok (.iface 191 (.agg #[.pointer (some ⟨12,100,none⟩)])) w:=by kernel_rfl
theorem bf0 (k:Nat) (h:Value) (w:World):(Go.method (k+2) 191 (.agg #[h]) "Kind").run prog w=.ok (248,h) w:=by kernel_rfl
theorem be5 (w:World):((ReflectliteType.abiMethod fun t=>(fun a:Nat=>Value.int IntKind.u8 (a:Int)) <$> Rtype.kind t) #[.pointer (some ⟨12,100,none⟩)]).run prog w=.ok (.int .u8 22) w:=by kernel_rfl
theorem be6 (w:World):((ReflectliteType.abiMethod fun t=>(fun a:Nat=>Value.int IntKind.u8 (a:Int)) <$> Rtype.kind t) #[.pointer (some ⟨12,98,none⟩)]).run prog w=.ok (.int .u8 25) w:=by kernel_rfl
theorem Lf (a:Addr) (w:World):(ReflectliteValue.parts (.agg #[.pointer (some ⟨12,100,none⟩),.pointer (some a),.int .u64 150])).run prog w=.ok (some (100,a,150)) w:=by kernel_rfl
theorem ae7 (a p:Addr) (W:World) (b:W.cell? a=some (.pointer (some p))) :
  (ReflectliteValue.method (ReflectliteValue.valueError "reflectlite.Value.IsNil" 0) ReflectliteValue.isNil #[.agg #[.pointer (some ⟨12,100,none⟩),.pointer (some a),.int .u64 150]]).run prog W=.ok (.bool false) W:=by
 show (Bind.bind (ReflectliteValue.parts (.agg #[.pointer (some ⟨12,100,none⟩),.pointer (some a),.int .u64 150])) _:Sem Value).run prog W=_
 simp only[Sem.run_bind,Lf,Result.andThen];simp[ReflectliteValue.isNil,loadVar,isAgg,underlying,underlying100,b,Result.andThen]
theorem be8 (k:Nat) (h:Value) (w:World):(Go.method (k+1) 191 (.agg #[h]) "Elem").run prog w=.ok (261,.agg #[h]) w:=by kernel_rfl
theorem be9 (k:Nat) (h:Value) (w:World):(Go.method (k+1) 191 (.agg #[h]) "Implements").run prog w=.ok (262,.agg #[h]) w:=by kernel_rfl
theorem be7 (k:Nat) (h:Value) (w:World):(Go.method (k+1) 191 (.agg #[h]) "AssignableTo").run prog w=.ok (259,.agg #[h]) w:=by kernel_rfl
theorem ae5 (w:World):(ReflectliteType.method ReflectliteType.elem #[.agg #[.pointer (some ⟨12,100,none⟩)]]).run prog w=.ok (.iface 191 (.agg #[.pointer (some ⟨12,98,none⟩)])) w:=by kernel_rfl
theorem av0 (w:World):(ReflectliteType.relation "Implements" ReflectliteType.implements_ #[.agg #[.pointer (some ⟨12,98,none⟩)],.iface 191 (.agg #[.pointer (some ⟨12,73,none⟩)])]).run prog w=.ok (.bool true) w:=by kernel_rfl
theorem Zr (v:Value) (w:World):(ReflectliteType.typeOf #[.iface 98 v]).run prog w=.ok (.iface 191 (.agg #[.pointer (some ⟨12,98,none⟩)])) w:=by kernel_rfl
theorem Zl (w:World):(ReflectliteType.relation "AssignableTo" ReflectliteType.assignableTo #[.agg #[.pointer (some ⟨12,98,none⟩)],.iface 191 (.agg #[.pointer (some ⟨12,98,none⟩)])]).run prog w=.ok (.bool true) w:=by kernel_rfl
theorem av5 (n:Int) (w:World):(ReflectliteValue.unpack (.iface 98 (.agg #[.int .i64 n]))).run prog w
  = .ok (.agg #[.pointer (some ⟨12,98,none⟩),.pointer (some ⟨w.heap.size,0,none⟩),.int .u64 153]) (w.alloc (.cells #[.int .i64 n] 98)):=by kernel_rfl
theorem Zn (w:World):(Rtype.elem? 100).run prog w=.ok (some 98) w:=by kernel_rfl
theorem bf1 (p:Addr) (w:World):(ReflectliteValue.mk 98 p ReflectliteValue.flagAddr).run prog w=.ok (.agg #[.pointer (some ⟨12,98,none⟩),.pointer (some p),.int .u64 409]) w:=by kernel_rfl
theorem ae6 (a p:Addr) (W:World) (b:W.cell? a=some (.pointer (some p))) :
  (ReflectliteValue.method (ReflectliteValue.valueError "reflectlite.Value.Elem" 0) ReflectliteValue.elem #[.agg #[.pointer (some ⟨12,100,none⟩),.pointer (some a),.int .u64 150]]).run prog W
   = .ok (.agg #[.pointer (some ⟨12,98,none⟩),.pointer (some p),.int .u64 409]) W:=by
 show (Bind.bind (ReflectliteValue.parts (.agg #[.pointer (some ⟨12,100,none⟩),.pointer (some a),.int .u64 150])) _:Sem Value).run prog W=_
 simp only[Sem.run_bind,Lf,Result.andThen];simp[ReflectliteValue.elem,loadVar,isAgg,underlying,underlying100,b,Result.andThen,Zn,bf1]
theorem Zo (a:Addr) (w:World):(ReflectliteValue.parts (.agg #[.pointer (some ⟨12,98,none⟩),.pointer (some a),.int .u64 409])).run prog w=.ok (some (98,a,409)) w:=by kernel_rfl
theorem Zp (a:Addr) (w:World):(ReflectliteValue.parts (.agg #[.pointer (some ⟨12,98,none⟩),.pointer (some a),.int .u64 153])).run prog w=.ok (some (98,a,153)) w:=by kernel_rfl
theorem Zm (w:World):(Rtype.directlyAssignable 98 98).run prog w=.ok true w:=by kernel_rfl
theorem av1 (b:Nat) (n:Int) (W:World) (a:W.cell? ⟨b,0,none⟩=some (.int .i64 n)):(loadVar 98 ⟨b,0,none⟩).run prog W=.ok (.agg #[.int .i64 n]) W:=by
 simp[loadVar,isAgg,underlying,underlying98,loadCells,loadCellsFrom,Addr.add,a,Result.andThen]
theorem ae8 (a:Nat) (n:Int) (b:Value) (W:World) (ht:W.cell? ⟨a,0,none⟩=some b) (c:W.frozen? ⟨a,0,none⟩=false):(storeVar 98 ⟨a,0,none⟩ (.agg #[.int .i64 n])).run prog W=.ok () (W.setCell ⟨a,0,none⟩ (.int .i64 n)):=by
 simp[storeVar,Value.cells,storeCells,Addr.add]
 rw[run_store prog W ⟨a,0,none⟩ _ _ (by rfl)];simp[ht,c]
theorem b48 (a b:Nat) (n:Int) (c:Value) (W:World) (d:W.cell? ⟨b,0,none⟩=some (.int .i64 n)) (ht:W.cell? ⟨a,0,none⟩=some c) (e:W.frozen? ⟨a,0,none⟩=false) :
  (ReflectliteValue.set #[.agg #[.pointer (some ⟨12,98,none⟩),.pointer (some ⟨a,0,none⟩),.int .u64 409],.agg #[.pointer (some ⟨12,98,none⟩),.pointer (some ⟨b,0,none⟩),.int .u64 153]]).run prog W
   = .ok (.tuple #[]) (W.setCell ⟨a,0,none⟩ (.int .i64 n)):=by
 show (Bind.bind (ReflectliteValue.parts (.agg #[.pointer (some ⟨12,98,none⟩),.pointer (some ⟨a,0,none⟩),.int .u64 409])) (fun _=>Bind.bind (ReflectliteValue.parts (.agg #[.pointer (some ⟨12,98,none⟩),.pointer (some ⟨b,0,none⟩),.int .u64 153])) _):Sem Value).run prog W=_
 simp only[Sem.run_bind,Zo,Zp,Result.andThen];simp[ReflectliteValue.flagAddr,Result.andThen,Zm,av1 b n W d,ae8 a n c W ht e]
def wy (w:World):Prop:=w.cell? ⟨4,0,none⟩=some (.iface 191 (.agg #[.pointer (some ⟨12,73,none⟩)]))
theorem ae9 (n:Int) (t:Nat) (d:Value) (w:World) (g:wy w) (b:w.cell? ⟨t,0,none⟩=some d) (e:w.frozen? ⟨t,0,none⟩=false) :
  Calls prog 47 #[.iface 98 (.agg #[.int .i64 n]),.iface 100 (.pointer (some ⟨t,0,none⟩))] w fun ev w'=>ev=.returned (.bool true)/\w'=((((w.alloc (.cells #[.pointer (some ⟨t,0,none⟩)] 100)).alloc (.cells #[.pointer (some ⟨12,100,none⟩),.pointer (some ⟨w.heap.size,0,none⟩),.int .u64 150] 154)).alloc (.cells #[.pointer (some ⟨12,100,none⟩),.pointer (some ⟨w.heap.size,0,none⟩),.int .u64 150] 154)).alloc (.cells #[.int .i64 n] 98)).setCell ⟨t,0,none⟩ (.int .i64 n):=by
 have B:=@run_callFunc_extern prog 98 _ (fun args=>ReflectliteValue.unpack (args.getD 0 (.tuple #[]))) func98 (by kernel_rfl) (by kernel_rfl) (by kernel_rfl) (by kernel_rfl);have C:=@run_callFunc_extern prog 99 _ (ReflectliteValue.methodAny (ReflectliteValue.valueError "reflectlite.Value.Type" 0) (fun t _ _ _=>ReflectliteType.toType t)) func99 (by kernel_rfl) (by kernel_rfl) (by kernel_rfl) (by kernel_rfl);have D:=@run_callFunc_extern prog 100 _ (ReflectliteValue.method (ReflectliteValue.valueError "reflectlite.Value.IsNil" 0) ReflectliteValue.isNil) func100 (by kernel_rfl) (by kernel_rfl) (by kernel_rfl) (by kernel_rfl);have m:=@run_callFunc_extern prog 248 _ (ReflectliteType.abiMethod fun t=>do pure (.int .u8 (<- Rtype.kind t))) func248 (by kernel_rfl) (by kernel_rfl) (by kernel_rfl) (by kernel_rfl)
 have p:=@run_callFunc_extern prog 261 _ (ReflectliteType.method ReflectliteType.elem) func261 (by kernel_rfl) (by kernel_rfl) (by kernel_rfl) (by kernel_rfl);have q:=@run_callFunc_extern prog 262 _ (ReflectliteType.relation "Implements" ReflectliteType.implements_) func262 (by kernel_rfl) (by kernel_rfl) (by kernel_rfl) (by kernel_rfl);have j:=@run_callFunc_extern prog 113 _ ReflectliteType.typeOf func113 (by kernel_rfl) (by kernel_rfl) (by kernel_rfl) (by kernel_rfl);have o:=@run_callFunc_extern prog 259 _ (ReflectliteType.relation "AssignableTo" ReflectliteType.assignableTo) func259 (by kernel_rfl) (by kernel_rfl) (by kernel_rfl) (by kernel_rfl)
 have k:=@run_callFunc_extern prog 131 _ (ReflectliteValue.method (ReflectliteValue.valueError "reflectlite.Value.Elem" 0) ReflectliteValue.elem) func131 (by kernel_rfl) (by kernel_rfl) (by kernel_rfl) (by kernel_rfl);have l:=@run_callFunc_extern prog 132 _ ReflectliteValue.set func132 (by kernel_rfl) (by kernel_rfl) (by kernel_rfl) (by kernel_rfl);have K:=Zr;have E:=be7;have h:=Zl;have x:=av5;have z:=av4;have A:=av3;have H:=bf0;have F:=be8;have G:=be9;have v:=be5;have u:=be6;have i:=ae5;have s:=av0;have a:w.cell? ⟨4,0,none⟩=some (.iface 191 (.agg #[.pointer (some ⟨12,73,none⟩)])):=g;have f:=ag a;have c:=ag b
 have I:=ae7 ⟨w.heap.size,0,none⟩ ⟨t,0,none⟩ ((w.alloc (.cells #[.pointer (some ⟨t,0,none⟩)] 100)).alloc (.cells #[.pointer (some ⟨12,100,none⟩),.pointer (some ⟨w.heap.size,0,none⟩),.int .u64 150] 154)) (by simp);have r:((w.alloc (.cells #[.pointer (some ⟨t,0,none⟩)] 100)).alloc (.cells #[.pointer (some ⟨12,100,none⟩),.pointer (some ⟨w.heap.size,0,none⟩),.int .u64 150] 154)).cell? ⟨4,0,none⟩=some (.iface 191 (.agg #[.pointer (some ⟨12,73,none⟩)])):=by
  rw[World.cell?_alloc_lt _ _ ⟨4,0,none⟩ (by simp;omega),World.cell?_alloc_lt _ _ ⟨4,0,none⟩ f];exact a
 have y:=ae6 ⟨w.heap.size,0,none⟩ ⟨t,0,none⟩ (((w.alloc (.cells #[.pointer (some ⟨t,0,none⟩)] 100)).alloc (.cells #[.pointer (some ⟨12,100,none⟩),.pointer (some ⟨w.heap.size,0,none⟩),.int .u64 150] 154)).alloc (.cells #[.pointer (some ⟨12,100,none⟩),.pointer (some ⟨w.heap.size,0,none⟩),.int .u64 150] 154)) (by rw[World.cell?_alloc_lt _ _ ⟨w.heap.size,0,none⟩ (by simp;omega)];simp);have J:=b48 t (w.heap.size+1+1+1) n d ((((w.alloc (.cells #[.pointer (some ⟨t,0,none⟩)] 100)).alloc (.cells #[.pointer (some ⟨12,100,none⟩),.pointer (some ⟨w.heap.size,0,none⟩),.int .u64 150] 154)).alloc (.cells #[.pointer (some ⟨12,100,none⟩),.pointer (some ⟨w.heap.size,0,none⟩),.int .u64 150] 154)).alloc (.cells #[.int .i64 n] 98))
  (by rw[World.cell?_alloc_at _ _ _ _ (by simp)];rfl)
  (by rw[World.cell?_alloc_lt _ _ ⟨t,0,none⟩ (by simp;omega),World.cell?_alloc_lt _ _ ⟨t,0,none⟩ (by simp;omega),World.cell?_alloc_lt _ _ ⟨t,0,none⟩ (by simp;omega),World.cell?_alloc_lt _ _ ⟨t,0,none⟩ c];exact b)
  (by rw[World.frozen?_alloc_old _ _ ⟨t,0,none⟩ (by simp;omega),World.frozen?_alloc_old _ _ ⟨t,0,none⟩ (by simp;omega),World.frozen?_alloc_old _ _ ⟨t,0,none⟩ (by simp;omega),World.frozen?_alloc_old _ _ ⟨t,0,none⟩ (Nat.ne_of_lt c)];exact e)
 go_enter func47,ntmps47;go_wp2;refine wp_loop_rounds 1 ?_;rw[rounds_succ];go_wp2;go_ret;exact⟨rfl,rfl⟩
end Go.Proofs.YtjbmgghehdemdaaGreatDoor
