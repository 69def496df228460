/- IConc7 -/
import Derived.Test.YtjbmgghehdemdaaGreatDoorMR15
import Derived.Test.YtjbmgghehdemdaaGreatDoorMR9
namespace Go.Proofs.YtjbmgghehdemdaaGreatDoor
set_option maxRecDepth 100000
set_option maxHeartbeats 16000000
open _root_.Go.Proofs.Tryz
open Go.RowKit
theorem Jz {gs:List (List Rw)} {k:Nat} {g:List Rw}(h:gs[k]? = some g):(gs.take (k+1)).flatten=(gs.take k).flatten++g:=by
 rw[List.take_add_one,h];simp
theorem Ei (gs:List (List Rw)) (k:Nat):(gs.take k).flatten.length<=gs.flatten.length:=by
 have h:=List.take_append_drop k gs;have:gs.flatten.length=((gs.take k)++(gs.drop k)).flatten.length:=by rw[h]
 rw[List.flatten_append,List.length_append]at this;omega
def qu (w:World) (v:Value) (gs:List (List Rw)):Prop :=
 ∃ a c,v=.slice a gs.length c/\(gs=[]\/∃ b o,a=some ⟨b,o,none⟩/\∀ (k:Nat) (g:List Rw),gs[k]? = some g->∃ (x:Option Addr) (m:Nat),w.cell? ⟨b,o+k,none⟩=some (.slice x g.length m)/\dd w x g)
theorem qu.below {w w':World} {v:Value} {gs:List (List Rw)}(h:qu w v gs) (e:Below w.heap.size w w'):qu w' v gs:=by
 obtain⟨a,c,rfl,h⟩:=h;refine⟨a,c,rfl,?_⟩;rcases h with h|⟨b,o,rfl,h⟩
 .exact .inl h
 .refine .inr ⟨b,o,rfl,fun k g hg=>?_⟩
  obtain⟨x,m,d,f⟩:=h k g hg;exact⟨x,m,(e.cell (p:=⟨b,o+k,none⟩) (ag d)).trans d,f.below e bR⟩
theorem qu.nil (w:World) (c:Nat) (a:Option Addr):qu w (.slice a 0 c) []:=⟨a,c,rfl,.inl rfl⟩
theorem Ee {w:World} {v:Value} {gs:List (List Rw)}(h:qu w v gs) (hl:gs.length<=1000) (S:gs.flatten.length<=100000) :
  Calls prog 86 #[v] w fun e w'=>∃ v,e=.returned v/\Rws w' w.heap.size v gs.flatten/\Below w.heap.size w w':=by
 have M:Hid (∀ u,Below w.heap.size w u->qu u v gs):=fun u hu=>h.below hu
 obtain⟨a,c,rfl,_⟩:=h;have G:=fun u=>Hj u gs.flatten.length (by omega)
 go_enter func86,ntmps86;go_wp2;go_loopw [3,11] (fun s i wr=>∃ k:Nat,k<=gs.length/\i=.int .i64 (k:Int)/\s=.int .i64 ((gs.take k).flatten.length:Int)/\wr=w) (fun _ i _=>gs.length-(intOf i).toNat)
 case atStart=>exact⟨0,Nat.zero_le _,rfl,rfl,rfl⟩
 case round =>
  obtain⟨k,H,rfl,rfl,rfl⟩:=hrel;by_cases p:k<gs.length
  .obtain⟨g,d⟩:∃ g,gs[k]? = some g:=by exact⟨_,List.getElem?_eq_getElem p⟩
   obtain⟨Z,c2,J,I⟩:=M.out wr bX;injection J with C _ D;subst C;subst D;rcases I with E|⟨b,o,rfl,t⟩
   .rw[E]at d;simp at d
   obtain⟨x,m,q1,_⟩:=t k g d;have L:=ag q1;have Y:(k:Int)<(gs.length:Int):=by omega
   have y:Hid ((gs.take (k+1)).flatten.length=(gs.take k).flatten.length+g.length):=by show _=_;rw[Jz d,List.length_append]
   have X:=Ei gs (k+1);rw[y.out]at X;clear t d G;generalize (gs.take k).flatten.length=n at *;generalize g.length=R at *;have a1:(0:Int)<=(n:Int)+(R:Int):=by omega
   have a3:¬ (n:Int)+(R:Int)<0:=by omega
   go_wp2;exact⟨⟨k+1,by omega,by go_num,by (first|(rw[y.out];go_num)|rfl),by (first|rfl|trivial)⟩,by simp[intOf];omega⟩
  .obtain rfl:k=gs.length:=by omega
   rw[List.take_length];have B:=G wr;clear G p H;have N:=hZ S;clear S;generalize hfn:gs.flatten.length=n at B ⊢;have a0:n<=100000:=by rw[<- hfn];exact N.out
   clear hfn;go_wp2_with fail;refine B.mono ?_;rintro e w1 ⟨v1,rfl,T,P⟩;obtain⟨f,rfl⟩:∃ f,f=wr:=⟨_,rfl⟩
   clear B;go_wp2_with fail;go_loopw [6,27] (fun v i wr=>∃ k:Nat,k<=gs.length/\i=.int .i64 (k:Int)/\Rws wr f.heap.size v (gs.take k).flatten/\Below f.heap.size f wr) (fun _ i _=>gs.length-(intOf i).toNat)
   case atStart=>exact⟨0,Nat.zero_le _,rfl,T,P⟩
   case round =>
    clear T P;obtain⟨k,H,rfl,l,z⟩:=hrel;have q:=hZ z;by_cases p:k<gs.length
    .obtain⟨g,d⟩:∃ g,gs[k]? = some g:=by exact⟨_,List.getElem?_eq_getElem p⟩
     obtain⟨Z,c2,J,I⟩:=M.out wr z;injection J with C _ D;subst C;subst D;rcases I with E|⟨b,o,rfl,t⟩
     .rw[E]at d;simp at d
     obtain⟨x,m,q1,q2⟩:=t k g d;have L:=ag q1;have Y:(k:Int)<(gs.length:Int):=by omega
     have A:Hid ((gs.take (k+1)).flatten=(gs.take k).flatten++g):=Jz d;have K:Hid ((gs.take k).flatten.length+g.length<=1048576):=by
      show _<=_
      have h1:=Ei gs (k+1);rw[A.out,List.length_append]at h1;have h2:=N.out;omega
     obtain⟨F,y⟩:∃ F,Hid ((gs.take k).flatten=F):=⟨_,rfl⟩
     rw[y.out]at l A K;have r:=hZ l;have O:Hid (SlV wr (.slice x g.length m) g):=⟨_,_,rfl,q2⟩;clear l t d q2 z;go_wp2_with (at_builtin;refine ef rfl _ _ rfl f.heap.size u6 (.slice x g.length m) F g rfl rfl r.out O.out K.out q.out.size ?_)
     intro v3 w3 U Q;have W:=hZ U;have V:Hid (Below f.heap.size f w3):=Below.grown q.out Q q.out.size (fun j hj=>(World.ownsRow.lt r.out j hj).1);clear U Q r O q q1 L;go_wp2;exact⟨⟨k+1,by omega,by go_num,by rw[A.out];exact W.out,V.out⟩,by simp[intOf];omega⟩
    .obtain rfl:k=gs.length:=by omega
     rw[List.take_length]at l;have r:=hZ l;clear l z p H;go_wp2;go_ret;exact⟨_,rfl,r.out,q.out⟩
def iz:List Int->List Int->Nat
 | x::xs,y::ys=>if x=y then iz xs ys+1 else 0
 | _,_=>0
theorem Lx:∀ (a b:List Int) (k:Nat) (x y:Int),(∀ j,j<k->a[j]? = b[j]?)->a[k]? = some x->b[k]? = some y->x≠y->iz a b=k
 | [],_,k,_,_,_,h,_,_=>by simp at h
 | _::_,[],k,_,_,_,_,h,_=>by simp at h
 | p::a,q::b,0,x,y,_,hx,hy,hne=>by
  simp at hx hy;subst hx;subst hy;unfold iz;rw[if_neg hne]
 | p::a,q::b,k+1,x,y,hj,hx,hy,hne=>by
  have h0:=hj 0 (by omega);simp at h0;subst h0;unfold iz;rw[if_pos rfl,Lx a b k x y (fun j h=>by have:=hj (j+1) (by omega);simpa using this) (by simpa using hx) (by simpa using hy) hne]
theorem Jc:∀ (a b:List Int),(∀ j,j<min a.length b.length->a[j]? = b[j]?)->iz a b=min a.length b.length
 | [],b,_=>by simp[iz]
 | _::_,[],_=>by simp[iz]
 | p::a,q::b,hj=>by
  have h0:=hj 0 (by simp);simp at h0;subst h0;have:=Jc a b (fun j h=>by have:=hj (j+1) (by simp;omega);simpa using this);unfold iz;rw[if_pos rfl,this];simp
def M5 (a b:List Int):Bool:=decide (b.length<=a.length) && decide (a.take b.length=b)
theorem Gv:∀ (a b:List Int),M5 a b=decide (iz a b=b.length)
 | a,[]=>by cases a <;> simp[M5,iz]
 | [],q::b=>by simp[M5,iz]
 | p::a,q::b=>by
  have c:=Gv a b;unfold M5 at c ⊢;unfold iz;by_cases h:p=q
  .subst h
   rw[if_pos rfl];simpa using c
  .rw[if_neg h]
   simp[h]
def ww (es:List Ent) (sh:Bool) (lv:Int) (x y:ByteArray):Bool:=if (okE es lv x && okE es lv y)=true then M5 (rf es sh lv x) (rf es sh lv y) else false
theorem ad2 {x y:Int}(c:1<=x/\x<=65535) (d:1<=y/\y<=65535):(Ieee.double.order (FloatKind.nearest .f64 x) (FloatKind.nearest .f64 y) == some .eq)=decide (x=y):=by
 obtain⟨a,rfl⟩:∃ a:Nat,x=(a:Int):=⟨x.toNat,by omega⟩
 obtain⟨b,rfl⟩:∃ b:Nat,y=(b:Int):=⟨y.toNat,by omega⟩
 rw[a10 (by omega) (by omega) (by omega) (by omega)];by_cases h:a=b
 .subst h;simp
 .rw[decide_eq_false h,decide_eq_false (by omega)]
end Go.Proofs.YtjbmgghehdemdaaGreatDoor
