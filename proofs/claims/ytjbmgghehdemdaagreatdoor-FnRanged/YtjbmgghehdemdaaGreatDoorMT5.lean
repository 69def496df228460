/- IIdx -/
import Derived.Test.YtjbmgghehdemdaaGreatDoorMT4
import Derived.Lib.Bytealg
import Derived.WalkMore
import Derived.Lib.OthersKept
import Derived.Lib.IndexLaws
namespace Go.Proofs.YtjbmgghehdemdaaGreatDoor
set_option maxRecDepth 100000
set_option maxHeartbeats 16000000
open _root_.Go.Proofs.Tryz
open Go.RowKit
def vsB:ByteArray:=⟨#[32,95,45,44,59,58,33,63,46]⟩
theorem Ci (s:ByteArray) (c:Int) (w:World) :
  Calls prog 217 #[.string s,.int .u8 c] w fun e w'=>e=.returned (.int .i64 (Lib.indexByte s.data.toList c.toNat.toUInt8))∧w'=w:=by
 go_enter func217,ntmps217;go_wp2;rw[run_callFunc_extern func229 (by kernel_rfl) (by kernel_rfl) (by kernel_rfl) (e:=Extern.BytealgIndexByte.indexByte) (by kernel_rfl),Lib.run_indexByteString];simp only[Result.andThen];rw[Oper.upon_value];go_wp2;go_ret;exact⟨rfl,rfl⟩
theorem tg (s:ByteArray) (c:Int) (w:World) :
  Calls prog 227 #[.string s,.int .u8 c] w fun e w'=>e=.returned (.int .i64 (Lib.indexByte s.data.toList c.toNat.toUInt8))∧w'=w:=by
 have A:=fun w=>Ci s c w
 go_enter func227,ntmps227;go_wp2_with fail;refine (A _).mono ?_;rintro e w1 ⟨rfl,rfl⟩;clear A;go_wp2;go_ret;exact⟨rfl,rfl⟩
theorem an3:((List.range 128).all fun k=>Lib.indexByte vsB.data.toList ((k:Int).toNat.toUInt8) == pi (k:Int))=true:=by kernel_rfl
theorem Zi {r:Int}(h0:0≤r) (h1:r<128):Lib.indexByte vsB.data.toList (r.toNat.toUInt8)=pi r:=by
 obtain⟨k,rfl⟩:∃ k:Nat,r=(k:Int):=⟨r.toNat,by omega⟩
 exact eq_of_beq (List.all_eq_true.1 an3 k (List.mem_range.2 (by omega)))
theorem aw8 (p:Nat) (hp:p<9):(Utf8.decode ⟨#[32,95,45,44,59,58,33,63,46]⟩ p).2=1∧((Utf8.decode ⟨#[32,95,45,44,59,58,33,63,46]⟩ p).1:Int)≠65533 :=
 (by decide:∀ q:Fin 9,(Utf8.decode ⟨#[32,95,45,44,59,58,33,63,46]⟩ q.1).2=1∧((Utf8.decode ⟨#[32,95,45,44,59,58,33,63,46]⟩ q.1).1:Int)≠65533) ⟨p,hp⟩
theorem ab7 {r:Int}(h:128≤r):pi r=-1:=by
 unfold pi;rw[a60 (by omega)]
theorem Qx (r:Int) (h0:0≤r) (h1:r<128) (w:World) :
  Calls prog 216 #[.string ⟨#[32,95,45,44,59,58,33,63,46]⟩,.int .i32 r] w fun e w'=>e=.returned (.int .i64 (pi r))∧w'=w:=by
 have A:=fun w=>tg vsB r w
 rw[Zi h0 h1]at A;unfold vsB at A;go_enter func216,ntmps216;go_wp2_with fail;refine (A _).mono ?_;rintro e w1 ⟨rfl,rfl⟩;clear A;go_wp2;go_ret;exact⟨rfl,rfl⟩
theorem Qw (w:World) :
  Calls prog 216 #[.string ⟨#[32,95,45,44,59,58,33,63,46]⟩,.int .i32 65533] w fun e w'=>e=.returned (.int .i64 (-1))∧Below w.heap.size w w':=by
 go_enter func216,ntmps216;go_wp2_with fail;go_loopw [4] (fun v wr=>v=.int .i64 0∧∃ p:Nat,p≤9∧wr.heap[w.heap.size]? = some (.stringIter ⟨#[32,95,45,44,59,58,33,63,46]⟩ p)∧Below w.heap.size w wr) (fun _ wr=>9-wr.iterPos w.heap.size)
 case atStart=>exact⟨rfl,0,Nat.zero_le _,World.iter_heap w _ 0,bY _⟩
 case round =>
  obtain⟨rfl,p,hp,a2,a4⟩:=hrel;have a3:=iterPos_of a2;by_cases a5:p<9
  .have a7:∀ ty,(Instr.next (.pointer (some ⟨w.heap.size,0,none⟩)) true ty).run prog wr=_:=fun ty=>Lib.run_next_any_at wr w.heap.size ⟨#[32,95,45,44,59,58,33,63,46]⟩ p ty a2 a5
   obtain⟨d1,d2⟩:=aw8 p a5;have a0:=Lib.iterAt_heap wr w.heap.size ⟨#[32,95,45,44,59,58,33,63,46]⟩ p (p+(Utf8.decode ⟨#[32,95,45,44,59,58,33,63,46]⟩ p).2) a2;have a1:=Lib.below_iterAt a4 (k:=w.heap.size) bR ⟨#[32,95,45,44,59,58,33,63,46]⟩ (p+(Utf8.decode ⟨#[32,95,45,44,59,58,33,63,46]⟩ p).2);obtain⟨W1,a6⟩:∃ W1,W1=wr.iterAt w.heap.size ⟨#[32,95,45,44,59,58,33,63,46]⟩ (p+(Utf8.decode ⟨#[32,95,45,44,59,58,33,63,46]⟩ p).2):=⟨_,rfl⟩
   rw[<- a6]at a7 a0 a1;rw[d1]at a0;have d3:(((Utf8.decode ⟨#[32,95,45,44,59,58,33,63,46]⟩ p).1:Int) == 65533)=false:=by simpa using d2
   generalize ((Utf8.decode ⟨#[32,95,45,44,59,58,33,63,46]⟩ p).1:Int)=x at *;clear a6 a2 a4 d1 d2;go_wp2;exact⟨⟨rfl,p+1,by omega,a0,a1⟩,by rw[iterPos_of a0,a3];omega⟩
  .have a7:∀ ty,(Instr.next (.pointer (some ⟨w.heap.size,0,none⟩)) true ty).run prog wr=_:=fun ty=>Lib.run_next_end_at wr w.heap.size ⟨#[32,95,45,44,59,58,33,63,46]⟩ p ty a2 a5
   go_wp2;go_ret;exact⟨rfl,a4⟩
theorem Df (r:Int) (h0:128≤r) (h1:r≤1114111) (h2:¬ (55296≤r∧r≤57343)) (w:World) :
  Calls prog 228 #[.int .i32 r] w fun e w'=>e=.returned (.bool true)∧w'=w:=by
 go_enter func228,ntmps228;by_cases h3:r<55296
 .go_wp2
  go_ret;exact⟨rfl,rfl⟩
 .have h4:57343<r:=by omega
  clear h2;go_wp2;go_ret;exact⟨rfl,rfl⟩
theorem Yu (r:Int) (h0:128≤r) (h1:r≤1114111) (h2:¬ (55296≤r∧r≤57343)):(∃ a z:UInt8,Utf8.encode r=⟨#[a,z]⟩∧128≤z.toNat)∨(∃ a b z:UInt8,Utf8.encode r=⟨#[a,b,z]⟩∧128≤z.toNat)∨(∃ a b c z:UInt8,Utf8.encode r=⟨#[a,b,c,z]⟩∧128≤z.toNat):=by
 have hv:Utf8.valid r=true:=by
  unfold Utf8.valid;simp
  omega
 have hz:∀ n:Nat,128≤(UInt8.ofNat (0x80+n % 64)).toNat:=by
  intro n;rw[UInt8.toNat_ofNat'];omega
 unfold Utf8.encode;rw[hv];simp only[if_true];rw[if_neg (by omega)];split
 .exact .inl ⟨_,_,rfl,hz _⟩
 .split
  .exact .inr (.inl ⟨_,_,_,rfl,hz _⟩)
  .exact .inr (.inr ⟨_,_,_,_,rfl,hz _⟩)
theorem J9 {z:UInt8}(h:128≤z.toNat) (n:Nat):Lib.indexByte ((⟨#[32,95,45,44,59,58,33,63,46]⟩:ByteArray).extract n 9).data.toList ((z.toNat:Int).toNat.toUInt8)=-1:=by
 have a0:(z.toNat:Int).toNat.toUInt8=z:=by simp
 rw[a0];have a1:=Lib.indexByte_ge ((⟨#[32,95,45,44,59,58,33,63,46]⟩:ByteArray).extract n 9).data.toList z;by_cases c:Lib.indexByte ((⟨#[32,95,45,44,59,58,33,63,46]⟩:ByteArray).extract n 9).data.toList z=-1
 .exact c
 .exfalso
  obtain⟨m,hm⟩:∃ m:Nat,Lib.indexByte ((⟨#[32,95,45,44,59,58,33,63,46]⟩:ByteArray).extract n 9).data.toList z=(m:Int):=⟨(Lib.indexByte ((⟨#[32,95,45,44,59,58,33,63,46]⟩:ByteArray).extract n 9).data.toList z).toNat,by omega⟩
  obtain⟨h1,_⟩:=Lib.indexByte_some hm;have h2:=List.mem_of_getElem? h1;rw[ByteArray.data_extract,Array.toList_extract,List.extract_eq_take_drop]at h2;have h3:=List.mem_of_mem_drop (List.mem_of_mem_take h2);have h4:∀ x ∈ (⟨#[32,95,45,44,59,58,33,63,46]⟩:ByteArray).data.toList,x.toNat<128:=by decide
  have:=h4 z h3;omega
theorem Qy (r:Int) (a z:UInt8) (hE:Utf8.encode r=⟨#[a,z]⟩) (hz:128≤z.toNat) (h0:128≤r) (h1:r≤1114111) (h2:¬ (55296≤r∧r≤57343)) (h3:r≠65533) (w:World) :
  Calls prog 216 #[.string ⟨#[32,95,45,44,59,58,33,63,46]⟩,.int .i32 r] w fun e w'=>e=.returned (.int .i64 (-1))∧Below w.heap.size w w':=by
 have V:=fun w=>Df r h0 h1 h2 w
 have h4:(r == 65533)=false:=by simpa using h3
 go_enter func216,ntmps216;go_wp2_with fail;refine (V _).mono ?_;rintro e w1 ⟨rfl,rfl⟩;clear V;go_wp2_with fail;go_step3
 go_wp2_with fail;go_loopw [9] (fun v wr=>wr=w1∧v=.int .i64 1) (fun _ _=>0)
 case atStart=>exact⟨rfl,rfl⟩
 case round =>
  obtain⟨rfl,rfl⟩:=hrel;have i1:∀ w,(Instr.index 9 (.string ⟨#[32,95,45,44,59,58,33,63,46]⟩) (.int .i64 1)).run prog w=.ok (.int .u8 95) w:=fun _=>by kernel_rfl
  have i2:∀ w,(Instr.index 9 (.string ⟨#[a,z]⟩) (.int .i64 1)).run prog w=.ok (.int .u8 z.toNat) w:=fun _=>by kernel_rfl
  have i3:((95:Int) != (z.toNat:Int))=true:=by simp;omega
  have i4:∀ w,(Instr.slice 9 (.string ⟨#[32,95,45,44,59,58,33,63,46]⟩) (some (.int .i64 (IntKind.i64.wrap 2))) none none).run prog w=.ok (.string ((⟨#[32,95,45,44,59,58,33,63,46]⟩:ByteArray).extract 2 9)) w:=fun _=>by kernel_rfl
  have A:=fun w=>tg ((⟨#[32,95,45,44,59,58,33,63,46]⟩:ByteArray).extract 2 9) z.toNat w
  rw[J9 hz 2]at A;generalize ((⟨#[32,95,45,44,59,58,33,63,46]⟩:ByteArray).extract 2 9)=sx at *;go_wp2_with fail;go_step3
  go_wp2_with fail;go_quiet (fail)
  go_wp2_with fail;go_quiet ((go_at_call 227;exact (A _).mono fun e w' h=>⟨h.1,_,h.2⟩))
  go_wp2;change bodyPost _ _ (fun e w'=>e=Ending.returned (.int .i64 (-1))∧Below wr.heap.size wr w') Exit.ret _ _
  go_ret;exact⟨rfl,below_drewN bX _⟩
theorem L5 (r:Int) (a b z:UInt8) (hE:Utf8.encode r=⟨#[a,b,z]⟩) (hz:128≤z.toNat) (h0:128≤r) (h1:r≤1114111) (h2:¬ (55296≤r∧r≤57343)) (h3:r≠65533) (w:World) :
  Calls prog 216 #[.string ⟨#[32,95,45,44,59,58,33,63,46]⟩,.int .i32 r] w fun e w'=>e=.returned (.int .i64 (-1))∧Below w.heap.size w w':=by
 have V:=fun w=>Df r h0 h1 h2 w
 have h4:(r == 65533)=false:=by simpa using h3
 go_enter func216,ntmps216;go_wp2_with fail;refine (V _).mono ?_;rintro e w1 ⟨rfl,rfl⟩;clear V;go_wp2_with fail;go_step3
 go_wp2_with fail;go_loopw [9] (fun v wr=>wr=w1∧v=.int .i64 2) (fun _ _=>0)
 case atStart=>exact⟨rfl,rfl⟩
 case round =>
  obtain⟨rfl,rfl⟩:=hrel;have i1:∀ w,(Instr.index 9 (.string ⟨#[32,95,45,44,59,58,33,63,46]⟩) (.int .i64 2)).run prog w=.ok (.int .u8 45) w:=fun _=>by kernel_rfl
  have i2:∀ w,(Instr.index 9 (.string ⟨#[a,b,z]⟩) (.int .i64 2)).run prog w=.ok (.int .u8 z.toNat) w:=fun _=>by kernel_rfl
  have i3:((45:Int) != (z.toNat:Int))=true:=by simp;omega
  have i4:∀ w,(Instr.slice 9 (.string ⟨#[32,95,45,44,59,58,33,63,46]⟩) (some (.int .i64 (IntKind.i64.wrap 3))) none none).run prog w=.ok (.string ((⟨#[32,95,45,44,59,58,33,63,46]⟩:ByteArray).extract 3 9)) w:=fun _=>by kernel_rfl
  have A:=fun w=>tg ((⟨#[32,95,45,44,59,58,33,63,46]⟩:ByteArray).extract 3 9) z.toNat w
  rw[J9 hz 3]at A;generalize ((⟨#[32,95,45,44,59,58,33,63,46]⟩:ByteArray).extract 3 9)=sx at *;go_wp2_with fail;go_step3
  go_wp2_with fail;go_quiet (fail)
  go_wp2_with fail;go_quiet ((go_at_call 227;exact (A _).mono fun e w' h=>⟨h.1,_,h.2⟩))
  go_wp2;change bodyPost _ _ (fun e w'=>e=Ending.returned (.int .i64 (-1))∧Below wr.heap.size wr w') Exit.ret _ _
  go_ret;exact⟨rfl,below_drewN bX _⟩
theorem Nd (r:Int) (a b c z:UInt8) (hE:Utf8.encode r=⟨#[a,b,c,z]⟩) (hz:128≤z.toNat) (h0:128≤r) (h1:r≤1114111) (h2:¬ (55296≤r∧r≤57343)) (h3:r≠65533) (w:World) :
  Calls prog 216 #[.string ⟨#[32,95,45,44,59,58,33,63,46]⟩,.int .i32 r] w fun e w'=>e=.returned (.int .i64 (-1))∧Below w.heap.size w w':=by
 have V:=fun w=>Df r h0 h1 h2 w
 have h4:(r == 65533)=false:=by simpa using h3
 go_enter func216,ntmps216;go_wp2_with fail;refine (V _).mono ?_;rintro e w1 ⟨rfl,rfl⟩;clear V;go_wp2_with fail;go_step3
 go_wp2_with fail;go_loopw [9] (fun v wr=>wr=w1∧v=.int .i64 3) (fun _ _=>0)
 case atStart=>exact⟨rfl,rfl⟩
 case round =>
  obtain⟨rfl,rfl⟩:=hrel;have i1:∀ w,(Instr.index 9 (.string ⟨#[32,95,45,44,59,58,33,63,46]⟩) (.int .i64 3)).run prog w=.ok (.int .u8 44) w:=fun _=>by kernel_rfl
  have i2:∀ w,(Instr.index 9 (.string ⟨#[a,b,c,z]⟩) (.int .i64 3)).run prog w=.ok (.int .u8 z.toNat) w:=fun _=>by kernel_rfl
  have i3:((44:Int) != (z.toNat:Int))=true:=by simp;omega
  have i4:∀ w,(Instr.slice 9 (.string ⟨#[32,95,45,44,59,58,33,63,46]⟩) (some (.int .i64 (IntKind.i64.wrap 4))) none none).run prog w=.ok (.string ((⟨#[32,95,45,44,59,58,33,63,46]⟩:ByteArray).extract 4 9)) w:=fun _=>by kernel_rfl
  have A:=fun w=>tg ((⟨#[32,95,45,44,59,58,33,63,46]⟩:ByteArray).extract 4 9) z.toNat w
  rw[J9 hz 4]at A;generalize ((⟨#[32,95,45,44,59,58,33,63,46]⟩:ByteArray).extract 4 9)=sx at *;go_wp2_with fail;go_step3
  go_wp2_with fail;go_quiet (fail)
  go_wp2_with fail;go_quiet ((go_at_call 227;exact (A _).mono fun e w' h=>⟨h.1,_,h.2⟩))
  go_wp2;change bodyPost _ _ (fun e w'=>e=Ending.returned (.int .i64 (-1))∧Below wr.heap.size wr w') Exit.ret _ _
  go_ret;exact⟨rfl,below_drewN bX _⟩
theorem pt (r:Int) (h0:0≤r) (h1:r≤1114111) (h2:¬ (55296≤r∧r≤57343)) (w:World) :
  Calls prog 216 #[.string ⟨#[32,95,45,44,59,58,33,63,46]⟩,.int .i32 r] w fun e w'=>e=.returned (.int .i64 (pi r))∧Below w.heap.size w w':=by
 by_cases c:r<128
 .exact (Qx r h0 c w).mono fun e w' h=>⟨h.1,by rw[h.2];exact bX⟩
 .rw[ab7 (by omega)]
  by_cases d:r=65533
  .subst d
   exact Qw w
  .rcases Yu r (by omega) h1 h2 with ⟨a,z,hE,hz⟩|⟨a,b,z,hE,hz⟩|⟨a,b,c,z,hE,hz⟩
   .exact Qy r a z hE hz (by omega) h1 h2 d w
   .exact L5 r a b z hE hz (by omega) h1 h2 d w
   .exact Nd r a b c z hE hz (by omega) h1 h2 d w
end Go.Proofs.YtjbmgghehdemdaaGreatDoor
