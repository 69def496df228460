/- BlkC -/
import Derived.Test.YtjbmgghehdemdaaGreatDoorMP2
import Derived.OwnWalk
import Derived.Test.YtjbmgghehdemdaaGreatDoorMP7
import Derived.ProofKit
namespace Go.Proofs.YtjbmgghehdemdaaGreatDoor
set_option maxRecDepth 100000
set_option maxHeartbeats 16000000
open _root_.Go.Proofs.Tryz
open Go.RowKit
theorem ac.slice {w:World} {B:Nat} {v:Value} {es:List Ent}(h:ac w B v es):∃ a n c,v=.slice a n c:=by
 rcases h.form with ⟨rfl,_⟩|⟨_,_,rfl,_,_,_,_⟩
 .exact⟨_,_,_,rfl⟩
 .exact⟨_,_,_,rfl⟩
def H0 (w:World) (a:Option Addr) (n:Nat):Prop :=
 n=0\/∃ cb off,a=some ⟨cb,off,none⟩/\cb<w.heap.size/\∀ j,j<n->∃ x:Int,0<=x/\x<=255/\w.cell? ⟨cb,off+j,none⟩=some (.int .u8 x)
theorem H0.below {w w':World} {a:Option Addr} {n:Nat}(h:H0 w a n) (e:Below w.heap.size w w'):H0 w' a n:=by
 rcases h with h|⟨c,b,rfl,d,f⟩
 .exact .inl h
 .refine .inr ⟨c,b,rfl,Nat.lt_of_lt_of_le d e.size,fun j hj=>?_⟩
  obtain⟨x,i,k,g⟩:=f j hj;exact⟨x,i,k,by rw[e.cell (p:=⟨c,b+j,none⟩) d];exact g⟩
theorem av5 (w:World) (a:Option Addr) (n cap:Nat) (f:n<=1048576) (h:H0 w a n) :
  Cur (w.alloc (.cells #[.slice a n cap,.int .i64 0,.int .u64 0] 67)) (w.heap.size+1) w.heap.size 0:=by
 refine⟨a,n,cap,0,heap_alloc_new w _,by omega,by simp,f,by omega,by omega,?_⟩;rcases h with h|⟨c,b,rfl,d,e⟩
 .exact .inl h
 .refine .inr ⟨c,b,rfl,by omega,by omega,fun j hj=>?_⟩
  obtain⟨x,i,k,g⟩:=e j hj;exact⟨x,i,k,(World.cell?_of_block (w:=w) (a:=⟨c,b+j,none⟩) (Below.heap_alloc _ _ _ d)).trans g⟩
theorem Ql (w:World) (a:Option Addr) (n c:Nat) (h1:200<n) (h2:n<=1048576) :
  Calls prog 15 #[.slice a n c] w fun e w'=>e=.returned (.tuple #[.string ⟨#[]⟩,.bool false])/\w'=w:=by
 go_enter func15,ntmps15;go_wp2;go_ret2;exact⟨rfl,rfl⟩
theorem Qm (w:World) (a:Option Addr) (c:Nat) :
  Calls prog 15 #[.slice a 0 c] w fun e w'=>e=.returned (.tuple #[.string ⟨#[]⟩,.bool true])/\w'=w:=by
 have N:=fun w=>D8 w a c
 go_enter func15,ntmps15;go_wp2;go_loop [11] (fun i=>i=.int .i64 0) (fun _=>0)
 case atStart=>rfl
 case round =>
  subst hrel;go_wp2_with (go_at_call 43;refine (N _).mono ?_;rintro e w' ⟨rfl,rfl⟩)
  go_ret2;exact⟨rfl,rfl⟩
theorem Qk (w:World) (g cap:Nat) (zs:List Int) (p:zs.length<=200) (m:g<w.heap.size)
  (b:∀ j,j<zs.length->w.cell? ⟨g,j,none⟩=some (.int .i64 (zs[j]?.getD 0))) (a:∀ x ∈ zs,bg x=true) :
  Calls prog 15 #[.slice (some ⟨g,0,none⟩) zs.length cap] w fun e w'=>e=.returned (.tuple #[.string ⟨(dm zs).toArray⟩,.bool true])/\Below w.heap.size w w':=by
 have N:=E3 w g cap zs (by omega) m b a;go_enter func15,ntmps15;go_wp2;go_loop [11] (fun i=>∃ k:Nat,k<=zs.length/\i=.int .i64 k) (fun i=>zs.length-(intOf i).toNat)
 case atStart=>exact⟨0,Nat.zero_le _,rfl⟩
 case round =>
  obtain⟨k,o,rfl⟩:=hrel;by_cases h:k<zs.length
  .obtain⟨x,d⟩:∃ x,zs[k]? = some x:=⟨_,List.getElem?_eq_getElem h⟩
   have c:=b k h;rw[d]at c;have n:w.cell? ⟨g,k,none⟩=some (.int .i64 x):=c;have f:=a x (List.mem_of_getElem? d);have P:=fun w=>zh x f w
   clear b c d a f N;go_wp2_with (go_at_call 42;refine (P _).mono ?_;rintro e q ⟨rfl,rfl⟩)
   exact⟨⟨k+1,by omega,by go_num⟩,by simp[intOf];omega⟩
  .clear b a
   go_wp2_with (go_at_call 43;refine N.mono ?_;rintro e w' ⟨rfl,l⟩)
   go_ret2;exact⟨rfl,l⟩
theorem Tm (w:World) (g cap:Nat) (zs:List Int) (s:zs.length<=200)
  (f:∀ j,j<zs.length->w.cell? ⟨g,j,none⟩=some (.int .i64 (zs[j]?.getD 0))) (d:¬ ∀ x ∈ zs,bg x=true) :
  Calls prog 15 #[.slice (some ⟨g,0,none⟩) zs.length cap] w fun e w'=>e=.returned (.tuple #[.string ⟨#[]⟩,.bool false])/\w'=w:=by
 go_enter func15,ntmps15;go_wp2;go_loop [11] (fun i=>∃ k:Nat,k<=zs.length/\i=.int .i64 k/\Hid (∀ j x,j<k->zs[j]? = some x->bg x=true)) (fun i=>zs.length-(intOf i).toNat)
 case atStart=>exact⟨0,Nat.zero_le _,rfl,fun j x c=>by omega⟩
 case round =>
  obtain⟨k,r,rfl,m⟩:=hrel;by_cases l:k<zs.length
  .obtain⟨x,a⟩:∃ x,zs[k]? = some x:=⟨_,List.getElem?_eq_getElem l⟩
   have b:=f k l;rw[a]at b;have q:w.cell? ⟨g,k,none⟩=some (.int .i64 x):=b;have p:Hid _:=a
   cases hgx:bg x
   .have P:=fun w=>Gv x hgx w
    clear f b a d hgx;go_wp2_with (go_at_call 42;refine (P _).mono ?_;rintro e o ⟨rfl,rfl⟩)
    go_ret2;exact⟨rfl,rfl⟩
   .have P:=fun w=>zh x hgx w
    have n:Hid (∀ j y,j<k+1->zs[j]? = some y->bg y=true):=by
     intro j y c h;by_cases e:j=k
     .subst e;rw[a]at h;cases h;exact hgx
     .exact m.out j y (by omega) h
    clear f b a d hgx;go_wp2_with (go_at_call 42;refine (P _).mono ?_;rintro e o ⟨rfl,rfl⟩)
    exact⟨⟨k+1,by omega,by go_num,n⟩,by simp[intOf];omega⟩
  .exfalso
   apply d
   intro x a;obtain⟨j,c⟩:=List.mem_iff_getElem?.1 a;have:=(List.getElem?_eq_some_iff.1 c).1;exact m.out j x (by omega) c
theorem av2 (t:ByteArray) (l rest:List UInt8) (h:t.data.toList=l++rest) (k:Nat) (b:k<l.length):k<t.size/\Dec.bt t k=(l[k]).toNat:=by
 have c:t.size=(l++rest).length:=by rw[<- h];rfl
 have a:k<t.size:=by rw[c];simp;omega
 refine⟨a,?_⟩;rw[<- Dec.bt_get t k a];have e:t[k]'a=t.data.toList[k]'(by simpa using a):=by simp;rfl
 rw[e];simp[h,b]
theorem us (x:Int) (h0:0<=x) (h1:x<256):(x.toNat.toUInt8).toNat=x.toNat:=by
 have:x.toNat<256:=by omega
 simp[Nat.toUInt8,Nat.mod_eq_of_lt this]
theorem Cl {t:ByteArray} {m:Nat}(a:Dec.more (Dec.bt t 0)=(m:Int)):Dec.one t=Dec.goes t m m 1 (Dec.lo1 (Dec.bt t 0)) (Dec.hi1 (Dec.bt t 0)) (Dec.first (Dec.bt t 0) m):=by
 unfold Dec.one;rw[a,if_neg (by omega)];rfl
theorem az3 (x:Int) (i:bg x=true) (t:ByteArray) (rest:List UInt8) (ht:t.data.toList=Lib.encodeRune x++rest) :
  Dec.one t=(x,(Lib.encodeRune x).length,true):=by
 obtain⟨h,m,o⟩:=kq i;obtain⟨n,rfl⟩:=Int.eq_ofNat_of_zero_le h;have b:=av2 t _ rest ht;by_cases j:(n:Int)<128
 .have e:=Lib.encodeRuneZ_one h (by omega)
  simp only[Lib.encodeRune,e,List.map_cons,List.map_nil,List.length_cons,List.length_nil]at b ⊢;have a:=b 0 (by omega);simp only[List.getElem_cons_zero,us _ h (by omega:(n:Int)<256)]at a;have f:Dec.more (Dec.bt t 0)=((0:Nat):Int):=by rw[a.2];unfold Dec.more;rw[if_pos (by omega)];rfl
  rw[Cl f];simp only[Dec.goes,Dec.first,a.2];simp
 by_cases k:(n:Int)<2048
 .have e:=Lib.encodeRuneZ_two (r:=(n:Int)) (by omega) (by omega)
  simp only[Lib.encodeRune,e,List.map_cons,List.map_nil,List.length_cons,List.length_nil]at b ⊢;have a:=b 0 (by omega);have c:=b 1 (by omega);simp only[List.getElem_cons_zero,us (192+(n:Int) / 64) (by omega) (by omega)]at a;simp only[List.getElem_cons_zero,List.getElem_cons_succ,us (128+(n:Int) % 64) (by omega) (by omega)]at c;have f:Dec.more (Dec.bt t 0)=((1:Nat):Int):=by
   rw[a.2];unfold Dec.more;repeat' split
   all_goals omega
  rw[Cl f,Dec.goes_yes _ c.2 ⟨c.1,(Dec.lo_hi _ _).2 (by rw[a.2];omega)⟩];simp only[Dec.goes,Dec.first,a.2];refine Prod.ext ?_ rfl;show ((((192+(n:Int) / 64).toNat % 32*64+(128+(n:Int) % 64).toNat % 64:Nat)):Int)=(n:Int)
  omega
 by_cases l:(n:Int)<65536
 .have e:=Lib.encodeRuneZ_three (r:=(n:Int)) (by omega)
  simp only[Lib.encodeRune,e,List.map_cons,List.map_nil,List.length_cons,List.length_nil]at b ⊢;have a:=b 0 (by omega);have c:=b 1 (by omega);have d:=b 2 (by omega);simp only[List.getElem_cons_zero,us (224+(n:Int) / 4096) (by omega) (by omega)]at a;simp only[List.getElem_cons_zero,List.getElem_cons_succ,us (128+(n:Int) / 64 % 64) (by omega) (by omega)]at c;simp only[List.getElem_cons_zero,List.getElem_cons_succ,us (128+(n:Int) % 64) (by omega) (by omega)]at d;have f:Dec.more (Dec.bt t 0)=((2:Nat):Int):=by
   rw[a.2];unfold Dec.more;repeat' split
   all_goals omega
  rw[Cl f,Dec.goes_yes _ c.2 ⟨c.1,(Dec.lo_hi _ _).2 (by rw[a.2];omega)⟩,Dec.goes_yes _ d.2 ⟨d.1,by omega,by omega⟩];simp only[Dec.goes,Dec.first,a.2];refine Prod.ext ?_ rfl;show (((((224+(n:Int) / 4096).toNat % 16*64+(128+(n:Int) / 64 % 64).toNat % 64)*64+(128+(n:Int) % 64).toNat % 64:Nat)):Int)=(n:Int)
  omega
 .have e:=Lib.encodeRuneZ_four (r:=(n:Int)) (by omega) (by omega)
  simp only[Lib.encodeRune,e,List.map_cons,List.map_nil,List.length_cons,List.length_nil]at b ⊢;have a:=b 0 (by omega);have c:=b 1 (by omega);have d:=b 2 (by omega);have g:=b 3 (by omega);simp only[List.getElem_cons_zero,us (240+(n:Int) / 262144) (by omega) (by omega)]at a;simp only[List.getElem_cons_zero,List.getElem_cons_succ,us (128+(n:Int) / 4096 % 64) (by omega) (by omega)]at c;simp only[List.getElem_cons_zero,List.getElem_cons_succ,us (128+(n:Int) / 64 % 64) (by omega) (by omega)]at d;simp only[List.getElem_cons_zero,List.getElem_cons_succ,us (128+(n:Int) % 64) (by omega) (by omega)]at g;have f:Dec.more (Dec.bt t 0)=((3:Nat):Int):=by
   rw[a.2];unfold Dec.more;repeat' split
   all_goals omega
  rw[Cl f,Dec.goes_yes _ c.2 ⟨c.1,(Dec.lo_hi _ _).2 (by rw[a.2];omega)⟩,Dec.goes_yes _ d.2 ⟨d.1,by omega,by omega⟩,Dec.goes_yes _ g.2 ⟨g.1,by omega,by omega⟩];simp only[Dec.goes,Dec.first,a.2];refine Prod.ext ?_ rfl;show ((((((240+(n:Int) / 262144).toNat % 8*64+(128+(n:Int) / 4096 % 64).toNat % 64)*64+(128+(n:Int) / 64 % 64).toNat % 64)*64+(128+(n:Int) % 64).toNat % 64:Nat)):Int)=(n:Int)
  omega
theorem Ay (x:Int):1<=(Lib.encodeRune x).length:=by
 unfold Lib.encodeRune;simpa using (Lib.encodeRuneZ_length x).1
theorem O9 (t:ByteArray) (l rest:List UInt8) (h:t.data.toList=l++rest):t.extract l.length t.size=⟨rest.toArray⟩:=by
 have a:t.size=(l++rest).length:=by rw[<- h];rfl
 apply ByteArray.ext
 apply Array.ext'
 rw[ByteArray.data_extract,Array.toList_extract,h,a];simp[List.extract]
theorem af9:∀ (zs:List Int) (f:Nat),zs.length<=f->(∀ x ∈ zs,bg x=true)->Dec.decT f ⟨(dm zs).toArray⟩=(zs,0):=by
 intro zs;induction zs with
 | nil=>intro f _ _;exact Dec.decT_end f _ rfl
 | cons x zs ih =>
  intro f a b;obtain⟨f,rfl⟩:∃ g,f=g+1:=⟨f-1,by simp at a;omega⟩
  have e:dm (x::zs)=Lib.encodeRune x++dm zs:=by simp[dm]
  have c:(⟨(dm (x::zs)).toArray⟩:ByteArray).data.toList=Lib.encodeRune x++dm zs:=by rw[e]
  have h:=az3 x (b x (by simp)) _ _ c;have d:0<(⟨(dm (x::zs)).toArray⟩:ByteArray).size:=by
   show 0<(dm (x::zs)).toArray.size
   rw[e];have:=Ay x;simp;omega
  have i:=O9 _ _ _ c;simp only[Dec.decT,if_pos d,h,i];rw[ih f (by simp at a;omega) (fun y hy=>b y (by simp[hy]))];rfl
def C6 (zs:List Int):Bool:=decide (zs.length<=200/\∀ x ∈ zs,bg x=true)
def Af (zs:List Int):ByteArray:=if C6 zs=true then ⟨(dm zs).toArray⟩ else ⟨#[]⟩
theorem Fe {zs:List Int}(h1:zs.length<=200) (h2:∀ x ∈ zs,bg x=true):C6 zs=true/\Af zs=⟨(dm zs).toArray⟩:=by
 have h:C6 zs=true:=decide_eq_true ⟨h1,h2⟩;exact⟨h,by unfold Af;rw[if_pos h]⟩
theorem a16 {zs:List Int}(h:¬ (zs.length<=200/\∀ x ∈ zs,bg x=true)):C6 zs=false/\Af zs=⟨#[]⟩:=by
 have h:C6 zs=false:=decide_eq_false h;exact⟨h,by unfold Af;rw[h];rfl⟩
theorem Tl {w:World} {B:Nat} {v:Value} {zs:List Int}(l:zs.length<=1048576) (f:aa w B v zs) :
  Calls prog 15 #[v] w fun e w'=>e=.returned (.tuple #[.string (Af zs),.bool (C6 zs)])/\Below w.heap.size w w':=by
 have k:=World.ownsRow.lt f;rcases f.form with ⟨rfl,rfl⟩|⟨g,i,rfl,m,n⟩
 .obtain⟨a,b⟩:=Fe (zs:=[]) (by simp) (by simp)
  rw[a,b];refine (Qm w _ _).mono ?_;rintro e w' ⟨rfl,rfl⟩;exact⟨rfl,bX⟩
 .by_cases c:zs.length<=200
  .by_cases d:∀ x ∈ zs,bg x=true
   .obtain⟨a,b⟩:=Fe c d
    rw[a,b];exact Qk w g i zs c (k g rfl).2 (fun j hj=>f.cell j hj) d
   .obtain⟨a,b⟩:=a16 (zs:=zs) (fun h=>d h.2)
    rw[a,b];refine (Tm w g i zs c (fun j hj=>f.cell j hj) d).mono ?_;rintro e w' ⟨rfl,rfl⟩;exact⟨rfl,bX⟩
  .obtain⟨a,b⟩:=a16 (zs:=zs) (fun h=>c h.1)
   rw[a,b];refine (Ql w _ zs.length i (by omega) l).mono ?_;rintro e w' ⟨rfl,rfl⟩;exact⟨rfl,bX⟩
open Go.ChangeShapes Go.WideShapes Go.ChangeAt Go.WideMaps Go.WideElems Go.RowKit
theorem av4 {w:World} {a:Option Addr} {len cap:Nat} {zs:List Int}(h:V4 .u8 w a len cap zs):H0 w a len:=by
 rcases h with ⟨rfl,rfl,rfl,rfl⟩|⟨x,rfl,p,o,r,e,g⟩
 .exact .inl rfl
 .by_cases k:len=0
  .exact .inl k
  .obtain⟨b,i,rfl,c⟩:=ints_at e (by omega)
   have f:b<w.heap.size:=by
    have l:=c 0 (by omega);apply Classical.byContradiction
    intro q;have:w.heap[b]? = none:=by simp;omega
    simp[World.cell?,this]at l
   refine .inr ⟨b,i,rfl,f,fun j hj=>?_⟩;have m:zs.getD j 0 ∈ zs:=by
    rw[List.getD_eq_getElem?_getD,List.getElem?_eq_getElem (show j<zs.length by omega)];exact List.getElem_mem _
   have n:=g _ m;have d:0<=zs.getD j 0/\zs.getD j 0<=255:=by simpa [Lit.wf,IntKind.min,IntKind.max,IntKind.signed,IntKind.bits] using n
   exact⟨_,d.1,d.2,c j (by omega)⟩
end Go.Proofs.YtjbmgghehdemdaaGreatDoor
