/- IIdx -/
import Derived.Test.YtjbmgghehdemdaaGreatDoorMR4
import Derived.Lib.Bytealg
import Derived.WalkMore
import Derived.Lib.OthersKept
import Derived.Lib.IndexLaws
namespace Go.Proofs.YtjbmgghehdemdaaGreatDoor
set_option maxRecDepth 100000
set_option maxHeartbeats 16000000
open _root_.Go.Proofs.Tryz
open Go.RowKit
def vsB:ByteArray:=⟨#[32,95,45,44,59,58,33,63,46]⟩
theorem Ci (s:ByteArray) (c:Int) (w:World) :
  Calls prog 217 #[.string s,.int .u8 c] w fun e w'=>e=.returned (.int .i64 (Lib.indexByte s.data.toList c.toNat.toUInt8))/\w'=w:=by
 go_enter func217,ntmps217;go_wp2;rw[run_callFunc_extern func229 (by kernel_rfl) (by kernel_rfl) (by kernel_rfl) (e:=Extern.BytealgIndexByte.indexByte) (by kernel_rfl),Lib.run_indexByteString];simp only[Result.andThen];rw[Oper.upon_value];go_wp2;go_ret;exact⟨rfl,rfl⟩
theorem tg (s:ByteArray) (c:Int) (w:World) :
  Calls prog 227 #[.string s,.int .u8 c] w fun e w'=>e=.returned (.int .i64 (Lib.indexByte s.data.toList c.toNat.toUInt8))/\w'=w:=by
 have A:=fun w=>Ci s c w
 go_enter func227,ntmps227;go_wp2_with fail;refine (A _).mono ?_;rintro e a ⟨rfl,rfl⟩;clear A;go_wp2;go_ret;exact⟨rfl,rfl⟩
theorem an4:((List.range 128).all fun k=>Lib.indexByte vsB.data.toList ((k:Int).toNat.toUInt8) == pi (k:Int))=true:=by kernel_rfl
theorem Zj {r:Int}(h0:0<=r) (h1:r<128):Lib.indexByte vsB.data.toList (r.toNat.toUInt8)=pi r:=by
 obtain⟨k,rfl⟩:∃ k:Nat,r=(k:Int):=⟨r.toNat,by omega⟩
 exact eq_of_beq (List.all_eq_true.1 an4 k (List.mem_range.2 (by omega)))
theorem aw9 (p:Nat) (a:p<9):(Utf8.decode ⟨#[32,95,45,44,59,58,33,63,46]⟩ p).2=1/\((Utf8.decode ⟨#[32,95,45,44,59,58,33,63,46]⟩ p).1:Int)≠65533 :=
 (by decide:∀ q:Fin 9,(Utf8.decode ⟨#[32,95,45,44,59,58,33,63,46]⟩ q.1).2=1/\((Utf8.decode ⟨#[32,95,45,44,59,58,33,63,46]⟩ q.1).1:Int)≠65533) ⟨p,a⟩
theorem ab8 {r:Int}(h:128<=r):pi r=-1:=by
 unfold pi;rw[a61 (by omega)]
theorem Qx (r:Int) (h0:0<=r) (h1:r<128) (w:World) :
  Calls prog 216 #[.string ⟨#[32,95,45,44,59,58,33,63,46]⟩,.int .i32 r] w fun e w'=>e=.returned (.int .i64 (pi r))/\w'=w:=by
 have A:=fun w=>tg vsB r w
 rw[Zj h0 h1]at A;unfold vsB at A;go_enter func216,ntmps216;go_wp2_with fail;refine (A _).mono ?_;rintro e a ⟨rfl,rfl⟩;clear A;go_wp2;go_ret;exact⟨rfl,rfl⟩
theorem Qw (w:World) :
  Calls prog 216 #[.string ⟨#[32,95,45,44,59,58,33,63,46]⟩,.int .i32 65533] w fun e w'=>e=.returned (.int .i64 (-1))/\Below w.heap.size w w':=by
 go_enter func216,ntmps216;go_wp2_with fail;go_loopw [4] (fun v wr=>v=.int .i64 0/\∃ p:Nat,p<=9/\wr.heap[w.heap.size]? = some (.stringIter ⟨#[32,95,45,44,59,58,33,63,46]⟩ p)/\Below w.heap.size w wr) (fun _ wr=>9-wr.iterPos w.heap.size)
 case atStart=>exact⟨rfl,0,Nat.zero_le _,World.iter_heap w _ 0,bY _⟩
 case round =>
  obtain⟨rfl,p,o,a,c⟩:=hrel;have m:=iterPos_of a;by_cases d:p<9
  .have h:∀ ty,(Instr.next (.pointer (some ⟨w.heap.size,0,none⟩)) true ty).run prog wr=_:=fun ty=>Lib.run_next_any_at wr w.heap.size ⟨#[32,95,45,44,59,58,33,63,46]⟩ p ty a d
   obtain⟨j,l⟩:=aw9 p d;have b:=Lib.iterAt_heap wr w.heap.size ⟨#[32,95,45,44,59,58,33,63,46]⟩ p (p+(Utf8.decode ⟨#[32,95,45,44,59,58,33,63,46]⟩ p).2) a;have g:=Lib.below_iterAt c (k:=w.heap.size) bR ⟨#[32,95,45,44,59,58,33,63,46]⟩ (p+(Utf8.decode ⟨#[32,95,45,44,59,58,33,63,46]⟩ p).2);obtain⟨i,f⟩:∃ i,i=wr.iterAt w.heap.size ⟨#[32,95,45,44,59,58,33,63,46]⟩ (p+(Utf8.decode ⟨#[32,95,45,44,59,58,33,63,46]⟩ p).2):=⟨_,rfl⟩
   rw[<- f]at h b g;rw[j]at b;have n:(((Utf8.decode ⟨#[32,95,45,44,59,58,33,63,46]⟩ p).1:Int) == 65533)=false:=by simpa using l
   generalize ((Utf8.decode ⟨#[32,95,45,44,59,58,33,63,46]⟩ p).1:Int)=x at *;clear f a c j l;go_wp2;exact⟨⟨rfl,p+1,by omega,b,g⟩,by rw[iterPos_of b,m];omega⟩
  .have h:∀ ty,(Instr.next (.pointer (some ⟨w.heap.size,0,none⟩)) true ty).run prog wr=_:=fun ty=>Lib.run_next_end_at wr w.heap.size ⟨#[32,95,45,44,59,58,33,63,46]⟩ p ty a d
   go_wp2;go_ret;exact⟨rfl,c⟩
theorem Df (r:Int) (h0:128<=r) (h1:r<=1114111) (h2:¬ (55296<=r/\r<=57343)) (w:World) :
  Calls prog 228 #[.int .i32 r] w fun e w'=>e=.returned (.bool true)/\w'=w:=by
 go_enter func228,ntmps228;by_cases a:r<55296
 .go_wp2
  go_ret;exact⟨rfl,rfl⟩
 .have b:57343<r:=by omega
  clear h2;go_wp2;go_ret;exact⟨rfl,rfl⟩
theorem Yv (r:Int) (h0:128<=r) (h1:r<=1114111) (h2:¬ (55296<=r/\r<=57343)):(∃ a z:UInt8,Utf8.encode r=⟨#[a,z]⟩/\128<=z.toNat)\/(∃ a b z:UInt8,Utf8.encode r=⟨#[a,b,z]⟩/\128<=z.toNat)\/(∃ a b c z:UInt8,Utf8.encode r=⟨#[a,b,c,z]⟩/\128<=z.toNat):=by
 have e:Utf8.valid r=true:=by
  unfold Utf8.valid;simp
  omega
 have d:∀ n:Nat,128<=(UInt8.ofNat (0x80+n % 64)).toNat:=by
  intro n;rw[UInt8.toNat_ofNat'];omega
 unfold Utf8.encode;rw[e];simp only[if_true];rw[if_neg (by omega)];split
 .exact .inl ⟨_,_,rfl,d _⟩
 .split
  .exact .inr (.inl ⟨_,_,_,rfl,d _⟩)
  .exact .inr (.inr ⟨_,_,_,_,rfl,d _⟩)
theorem J9 {z:UInt8}(h:128<=z.toNat) (n:Nat):Lib.indexByte ((⟨#[32,95,45,44,59,58,33,63,46]⟩:ByteArray).extract n 9).data.toList ((z.toNat:Int).toNat.toUInt8)=-1:=by
 have b:(z.toNat:Int).toNat.toUInt8=z:=by simp
 rw[b];have i:=Lib.indexByte_ge ((⟨#[32,95,45,44,59,58,33,63,46]⟩:ByteArray).extract n 9).data.toList z;by_cases c:Lib.indexByte ((⟨#[32,95,45,44,59,58,33,63,46]⟩:ByteArray).extract n 9).data.toList z=-1
 .exact c
 .exfalso
  obtain⟨m,g⟩:∃ m:Nat,Lib.indexByte ((⟨#[32,95,45,44,59,58,33,63,46]⟩:ByteArray).extract n 9).data.toList z=(m:Int):=⟨(Lib.indexByte ((⟨#[32,95,45,44,59,58,33,63,46]⟩:ByteArray).extract n 9).data.toList z).toNat,by omega⟩
  obtain⟨d,_⟩:=Lib.indexByte_some g;have a:=List.mem_of_getElem? d;rw[ByteArray.data_extract,Array.toList_extract,List.extract_eq_take_drop]at a;have e:=List.mem_of_mem_drop (List.mem_of_mem_take a);have f:∀ x ∈ (⟨#[32,95,45,44,59,58,33,63,46]⟩:ByteArray).data.toList,x.toNat<128:=by decide
  have:=f z e;omega
theorem Qy (r:Int) (a z:UInt8) (g:Utf8.encode r=⟨#[a,z]⟩) (c:128<=z.toNat) (h0:128<=r) (h1:r<=1114111) (h2:¬ (55296<=r/\r<=57343)) (b:r≠65533) (w:World) :
  Calls prog 216 #[.string ⟨#[32,95,45,44,59,58,33,63,46]⟩,.int .i32 r] w fun e w'=>e=.returned (.int .i64 (-1))/\Below w.heap.size w w':=by
 have V:=fun w=>Df r h0 h1 h2 w
 have f:(r == 65533)=false:=by simpa using b
 go_enter func216,ntmps216;go_wp2_with fail;refine (V _).mono ?_;rintro e d ⟨rfl,rfl⟩;clear V;go_wp2_with fail;go_step3
 go_wp2_with fail;go_loopw [9] (fun v wr=>wr=d/\v=.int .i64 1) (fun _ _=>0)
 case atStart=>exact⟨rfl,rfl⟩
 case round =>
  obtain⟨rfl,rfl⟩:=hrel;have i:∀ w,(Instr.index 9 (.string ⟨#[32,95,45,44,59,58,33,63,46]⟩) (.int .i64 1)).run prog w=.ok (.int .u8 95) w:=fun _=>by kernel_rfl
  have j:∀ w,(Instr.index 9 (.string ⟨#[a,z]⟩) (.int .i64 1)).run prog w=.ok (.int .u8 z.toNat) w:=fun _=>by kernel_rfl
  have k:((95:Int) != (z.toNat:Int))=true:=by simp;omega
  have l:∀ w,(Instr.slice 9 (.string ⟨#[32,95,45,44,59,58,33,63,46]⟩) (some (.int .i64 (IntKind.i64.wrap 2))) none none).run prog w=.ok (.string ((⟨#[32,95,45,44,59,58,33,63,46]⟩:ByteArray).extract 2 9)) w:=fun _=>by kernel_rfl
  have A:=fun w=>tg ((⟨#[32,95,45,44,59,58,33,63,46]⟩:ByteArray).extract 2 9) z.toNat w
  rw[J9 c 2]at A;generalize ((⟨#[32,95,45,44,59,58,33,63,46]⟩:ByteArray).extract 2 9)=sx at *;go_wp2_with fail;go_step3
  go_wp2_with fail;go_quiet (fail)
  go_wp2_with fail;go_quiet ((go_at_call 227;exact (A _).mono fun e w' h=>⟨h.1,_,h.2⟩))
  go_wp2;change bodyPost _ _ (fun e w'=>e=Ending.returned (.int .i64 (-1))/\Below wr.heap.size wr w') Exit.ret _ _
  go_ret;exact⟨rfl,below_drewN bX _⟩
theorem L5 (r:Int) (a b z:UInt8) (i:Utf8.encode r=⟨#[a,b,z]⟩) (d:128<=z.toNat) (h0:128<=r) (h1:r<=1114111) (h2:¬ (55296<=r/\r<=57343)) (c:r≠65533) (w:World) :
  Calls prog 216 #[.string ⟨#[32,95,45,44,59,58,33,63,46]⟩,.int .i32 r] w fun e w'=>e=.returned (.int .i64 (-1))/\Below w.heap.size w w':=by
 have V:=fun w=>Df r h0 h1 h2 w
 have g:(r == 65533)=false:=by simpa using c
 go_enter func216,ntmps216;go_wp2_with fail;refine (V _).mono ?_;rintro e f ⟨rfl,rfl⟩;clear V;go_wp2_with fail;go_step3
 go_wp2_with fail;go_loopw [9] (fun v wr=>wr=f/\v=.int .i64 2) (fun _ _=>0)
 case atStart=>exact⟨rfl,rfl⟩
 case round =>
  obtain⟨rfl,rfl⟩:=hrel;have j:∀ w,(Instr.index 9 (.string ⟨#[32,95,45,44,59,58,33,63,46]⟩) (.int .i64 2)).run prog w=.ok (.int .u8 45) w:=fun _=>by kernel_rfl
  have k:∀ w,(Instr.index 9 (.string ⟨#[a,b,z]⟩) (.int .i64 2)).run prog w=.ok (.int .u8 z.toNat) w:=fun _=>by kernel_rfl
  have l:((45:Int) != (z.toNat:Int))=true:=by simp;omega
  have m:∀ w,(Instr.slice 9 (.string ⟨#[32,95,45,44,59,58,33,63,46]⟩) (some (.int .i64 (IntKind.i64.wrap 3))) none none).run prog w=.ok (.string ((⟨#[32,95,45,44,59,58,33,63,46]⟩:ByteArray).extract 3 9)) w:=fun _=>by kernel_rfl
  have A:=fun w=>tg ((⟨#[32,95,45,44,59,58,33,63,46]⟩:ByteArray).extract 3 9) z.toNat w
  rw[J9 d 3]at A;generalize ((⟨#[32,95,45,44,59,58,33,63,46]⟩:ByteArray).extract 3 9)=sx at *;go_wp2_with fail;go_step3
  go_wp2_with fail;go_quiet (fail)
  go_wp2_with fail;go_quiet ((go_at_call 227;exact (A _).mono fun e w' h=>⟨h.1,_,h.2⟩))
  go_wp2;change bodyPost _ _ (fun e w'=>e=Ending.returned (.int .i64 (-1))/\Below wr.heap.size wr w') Exit.ret _ _
  go_ret;exact⟨rfl,below_drewN bX _⟩
theorem Nd (r:Int) (a b c z:UInt8) (j:Utf8.encode r=⟨#[a,b,c,z]⟩) (f:128<=z.toNat) (h0:128<=r) (h1:r<=1114111) (h2:¬ (55296<=r/\r<=57343)) (d:r≠65533) (w:World) :
  Calls prog 216 #[.string ⟨#[32,95,45,44,59,58,33,63,46]⟩,.int .i32 r] w fun e w'=>e=.returned (.int .i64 (-1))/\Below w.heap.size w w':=by
 have V:=fun w=>Df r h0 h1 h2 w
 have i:(r == 65533)=false:=by simpa using d
 go_enter func216,ntmps216;go_wp2_with fail;refine (V _).mono ?_;rintro e g ⟨rfl,rfl⟩;clear V;go_wp2_with fail;go_step3
 go_wp2_with fail;go_loopw [9] (fun v wr=>wr=g/\v=.int .i64 3) (fun _ _=>0)
 case atStart=>exact⟨rfl,rfl⟩
 case round =>
  obtain⟨rfl,rfl⟩:=hrel;have k:∀ w,(Instr.index 9 (.string ⟨#[32,95,45,44,59,58,33,63,46]⟩) (.int .i64 3)).run prog w=.ok (.int .u8 44) w:=fun _=>by kernel_rfl
  have l:∀ w,(Instr.index 9 (.string ⟨#[a,b,c,z]⟩) (.int .i64 3)).run prog w=.ok (.int .u8 z.toNat) w:=fun _=>by kernel_rfl
  have m:((44:Int) != (z.toNat:Int))=true:=by simp;omega
  have n:∀ w,(Instr.slice 9 (.string ⟨#[32,95,45,44,59,58,33,63,46]⟩) (some (.int .i64 (IntKind.i64.wrap 4))) none none).run prog w=.ok (.string ((⟨#[32,95,45,44,59,58,33,63,46]⟩:ByteArray).extract 4 9)) w:=fun _=>by kernel_rfl
  have A:=fun w=>tg ((⟨#[32,95,45,44,59,58,33,63,46]⟩:ByteArray).extract 4 9) z.toNat w
  rw[J9 f 4]at A;generalize ((⟨#[32,95,45,44,59,58,33,63,46]⟩:ByteArray).extract 4 9)=sx at *;go_wp2_with fail;go_step3
  go_wp2_with fail;go_quiet (fail)
  go_wp2_with fail;go_quiet ((go_at_call 227;exact (A _).mono fun e w' h=>⟨h.1,_,h.2⟩))
  go_wp2;change bodyPost _ _ (fun e w'=>e=Ending.returned (.int .i64 (-1))/\Below wr.heap.size wr w') Exit.ret _ _
  go_ret;exact⟨rfl,below_drewN bX _⟩
theorem pt (r:Int) (h0:0<=r) (h1:r<=1114111) (h2:¬ (55296<=r/\r<=57343)) (w:World) :
  Calls prog 216 #[.string ⟨#[32,95,45,44,59,58,33,63,46]⟩,.int .i32 r] w fun e w'=>e=.returned (.int .i64 (pi r))/\Below w.heap.size w w':=by
 by_cases c:r<128
 .exact (Qx r h0 c w).mono fun e w' h=>⟨h.1,by rw[h.2];exact bX⟩
 .rw[ab8 (by omega)]
  by_cases d:r=65533
  .subst d
   exact Qw w
  .rcases Yv r (by omega) h1 h2 with ⟨a,z,f,g⟩|⟨a,b,z,f,g⟩|⟨a,b,c,z,f,g⟩
   .exact Qy r a z f g (by omega) h1 h2 d w
   .exact L5 r a b z f g (by omega) h1 h2 d w
   .exact Nd r a b c z f g (by omega) h1 h2 d w
end Go.Proofs.YtjbmgghehdemdaaGreatDoor
