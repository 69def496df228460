/- IGood6 -/
import Derived.Test.YtjbmgghehdemdaaGreatDoorMS12
namespace Go.Proofs.YtjbmgghehdemdaaGreatDoor
set_option maxRecDepth 100000
set_option maxHeartbeats 16000000
open _root_.Go.Proofs.Tryz
open Go.RowKit
theorem jl {B:Nat} {w u:World}(h:Below B w u) (n:Nat):Below B w (u.drewN n):=⟨h.os,h.tape,h.output,h.size,h.block⟩
def bb6 (w:World) (l:List Rw) (i:Value) (wr:World):Prop:=∃ k:Nat,k<=l.length/\i=.int .i64 k/\(∀ j,j<k->mo l j=true)/\Below w.heap.size w wr
theorem Ju {w:World} {a:Option Addr} {l:List Rw} {cap:Nat}(z:dc w a l) (V:l.length<=9223372036854775807) :
  Calls prog 160 #[.slice a l.length cap] w fun e w'=>e=.returned (.bool (da l))/\Below w.heap.size w w':=by
 by_cases F:l.length<=60
 .obtain⟨p,c⟩:∃ p,Hid (da l=p):=⟨_,rfl⟩
  rw[c.out];go_enter func160,ntmps160;go_wp2;go_loopw [10] (fun i wr=>bb6 w l i wr) (fun i _=>l.length-(intOf i).toNat)
  case atStart=>exact⟨0,Nat.zero_le _,rfl,fun j hj=>by omega,bX⟩
  case round =>
   obtain⟨k,U,rfl,I,r⟩:=hrel;have f:Hid _:=I;clear I;by_cases t:k<l.length
   .obtain⟨x,d⟩:∃ x,l[k]? = some x:=⟨_,List.getElem?_eq_getElem t⟩
    have J:=z.below r bR;rcases J with rfl|⟨b,o,rfl,m⟩
    .simp at d
    obtain⟨G,L,M⟩:=m k x d;have O:=ag G;have S:(k:Int)<(l.length:Int):=by omega
    have C:Hid (∀ o n,Below w.heap.size w ((wr.alloc o).drewN n)):=fun o n=>jl (r.alloc r.size o) n
    have B:Hid (∀ o,Below w.heap.size w (wr.alloc o)):=fun o=>r.alloc r.size o
    clear z r;by_cases h:x.key.size<=200
    .by_cases q:x.text.size<=80
     .by_cases s:x.val.size<=80
      .have v:=Ik h q s
       have E:¬ (200:Int)<(x.key.size:Int):=by omega
       have H:¬ (80:Int)<(x.text.size:Int):=by omega
       have N:¬ (80:Int)<(x.val.size:Int):=by omega
       cases k with
       | zero =>
        simp only[Nat.zero_mul,Nat.add_zero]at G L M;have D:Hid _:=A0 f.out (by rw[Md d];exact v);clear m d f v c h q s;go_wp2;go_quiet (fail)
        go_wp2;exact⟨⟨1,by omega,by go_num,D.out,C.out _ _⟩,by simp[intOf];omega⟩
       | succ j =>
        obtain⟨y,A⟩:∃ y,l[j]? = some y:=⟨_,List.getElem?_eq_getElem (by omega)⟩
        obtain⟨W,_,_⟩:=m j y A;have P:(((j+1:Nat):Int)-1).toNat=j:=by omega
        have Q:((j+1:Nat):Int)-1=(j:Int):=by omega
        have R:(j:Int)<(l.length:Int):=by omega
        have u:=Mc d A;rw[v,Bool.true_and]at u
        cases hlk:ltK y.key x.key
        .have g:Hid (p=false):=by show _=_;rw[<- c.out];exact nw t (u.trans hlk)
         unfold ltK at hlk;clear m d A f v c h q s u;go_wp2;go_quiet (fail)
         go_wp2;go_ret;rw[g.out];exact⟨rfl,C.out _ _⟩
        .have D:Hid _:=A0 f.out (u.trans hlk)
         unfold ltK at hlk;clear m d A f v c h q s u;go_wp2;go_quiet (fail)
         go_wp2;exact⟨⟨j+1+1,by omega,by go_num,D.out,C.out _ _⟩,by simp[intOf];omega⟩
      .have E:¬ (200:Int)<(x.key.size:Int):=by omega
       have H:¬ (80:Int)<(x.text.size:Int):=by omega
       have N:(80:Int)<(x.val.size:Int):=by omega
       have g:Hid (p=false):=by show _=_;rw[<- c.out];exact nw t (yg d (Uy s))
       clear m d f c h q s;go_wp2;go_ret;rw[g.out];exact⟨rfl,B.out _⟩
     .have E:¬ (200:Int)<(x.key.size:Int):=by omega
      have H:(80:Int)<(x.text.size:Int):=by omega
      have g:Hid (p=false):=by show _=_;rw[<- c.out];exact nw t (yg d (Ra q))
      clear m d f c h q;go_wp2;go_ret;rw[g.out];exact⟨rfl,B.out _⟩
    .have E:(200:Int)<(x.key.size:Int):=by omega
     have g:Hid (p=false):=by show _=_;rw[<- c.out];exact nw t (yg d (Ux h))
     clear m d f c h;go_wp2;go_ret;rw[g.out];exact⟨rfl,B.out _⟩
   .have K:k=l.length:=by omega
    subst K;have g:Hid (p=true):=by show _=_;rw[<- c.out];exact wj F f.out
    clear z f c;go_wp2;go_ret;rw[g.out];exact⟨rfl,r⟩
 .have T:¬ (l.length:Int)<=60:=by omega
  rw[Jm F];clear z;go_enter func160,ntmps160;go_wp2;go_ret;exact⟨rfl,bX⟩
theorem Mt {B:Nat} {w u:World}(h:Below B w u) (n:Nat):Below B w (u.drewN n):=⟨h.os,h.tape,h.output,h.size,h.block⟩
def b36 (w:World) (l:List Rw) (i:Value) (wr:World):Prop:=∃ k:Nat,k<=l.length/\i=.int .i64 k/\(∀ j,j<k->mo l j=true)/\Below w.heap.size w wr
theorem Yz {w:World} {a:Option Addr} {l:List Rw} {cap:Nat}(E:dc w a l) (Y:l.length<=9223372036854775807) :
  Calls prog 141 #[.slice a l.length cap] w fun e w'=>e=.returned (.bool (da l))/\Below w.heap.size w w':=by
 by_cases J:l.length<=60
 .obtain⟨q,c⟩:∃ q,Hid (da l=q):=⟨_,rfl⟩
  rw[c.out];go_enter func141,ntmps141;go_wp2;go_loopw [10] (fun i wr=>b36 w l i wr) (fun i _=>l.length-(intOf i).toNat)
  case atStart=>exact⟨0,Nat.zero_le _,rfl,fun j hj=>by omega,bX⟩
  case round =>
   obtain⟨k,X,rfl,L,s⟩:=hrel;have f:Hid _:=L;clear L;by_cases z:k<l.length
   .obtain⟨x,d⟩:∃ x,l[k]? = some x:=⟨_,List.getElem?_eq_getElem z⟩
    have M:=E.below s bR;rcases M with rfl|⟨b,o,rfl,m⟩
    .simp at d
    obtain⟨K,O,P⟩:=m k x d;have R:=ag K;have V:(k:Int)<(l.length:Int):=by omega
    have t:Hid (∀ o n,Below w.heap.size w ((wr.alloc o).drewN n)):=fun o n=>Mt (s.alloc s.size o) n
    have Q:Hid (∀ o,Below w.heap.size w (wr.alloc o)):=fun o=>s.alloc s.size o
    clear E s;by_cases h:x.key.size<=200
    .by_cases r:x.text.size<=80
     .by_cases u:x.val.size<=80
      .have C:=Ik h r u
       have p:Hid (¬ (200:Int)<(x.key.size:Int)):=(by omega:¬ (200:Int)<(x.key.size:Int));have v:Hid (¬ (80:Int)<(x.text.size:Int)):=(by omega:¬ (80:Int)<(x.text.size:Int));have G:Hid (¬ (80:Int)<(x.val.size:Int)):=(by omega:¬ (80:Int)<(x.val.size:Int))
       cases k with
       | zero =>
        simp only[Nat.zero_mul,Nat.add_zero]at K O P;have H:Hid _:=A0 f.out (by rw[Md d];exact C);clear m d f C c h r u;go_wp2;have B:decide ((200:Int)<(x.key.size:Int))=false:=decide_eq_false (by have:=p.out;omega);have D:decide ((80:Int)<(x.text.size:Int))=false:=decide_eq_false (by have:=v.out;omega);have I:decide ((80:Int)<(x.val.size:Int))=false:=decide_eq_false (by have:=G.out;omega);go_quiet (fail)
        go_wp2;exact⟨⟨1,by omega,by go_num,H.out,t.out _ _⟩,by simp[intOf];omega⟩
       | succ j =>
        obtain⟨y,F⟩:∃ y,l[j]? = some y:=⟨_,List.getElem?_eq_getElem (by omega)⟩
        obtain⟨Z,_,_⟩:=m j y F;have S:(((j+1:Nat):Int)-1).toNat=j:=by omega
        have T:((j+1:Nat):Int)-1=(j:Int):=by omega
        have U:(j:Int)<(l.length:Int):=by omega
        have A:=Mc d F;rw[C,Bool.true_and]at A
        cases hlk:ltK y.key x.key
        .have g:Hid (q=false):=by show _=_;rw[<- c.out];exact nw z (A.trans hlk)
         unfold ltK at hlk;clear m d F f C c h r u A;go_wp2;have B:decide ((200:Int)<(x.key.size:Int))=false:=decide_eq_false (by have:=p.out;omega);have D:decide ((80:Int)<(x.text.size:Int))=false:=decide_eq_false (by have:=v.out;omega);have I:decide ((80:Int)<(x.val.size:Int))=false:=decide_eq_false (by have:=G.out;omega);go_quiet (fail)
         go_wp2;go_ret;rw[g.out];exact⟨rfl,t.out _ _⟩
        .have H:Hid _:=A0 f.out (A.trans hlk)
         unfold ltK at hlk;clear m d F f C c h r u A;go_wp2;have B:decide ((200:Int)<(x.key.size:Int))=false:=decide_eq_false (by have:=p.out;omega);have D:decide ((80:Int)<(x.text.size:Int))=false:=decide_eq_false (by have:=v.out;omega);have I:decide ((80:Int)<(x.val.size:Int))=false:=decide_eq_false (by have:=G.out;omega);go_quiet (fail)
         go_wp2;exact⟨⟨j+1+1,by omega,by go_num,H.out,t.out _ _⟩,by simp[intOf];omega⟩
      .have p:Hid (¬ (200:Int)<(x.key.size:Int)):=(by omega:¬ (200:Int)<(x.key.size:Int))
       have v:Hid (¬ (80:Int)<(x.text.size:Int)):=(by omega:¬ (80:Int)<(x.text.size:Int));have I:(80:Int)<(x.val.size:Int):=by omega
       have g:Hid (q=false):=by show _=_;rw[<- c.out];exact nw z (yg d (Uy u))
       clear m d f c h r u;go_wp2;have B:decide ((200:Int)<(x.key.size:Int))=false:=decide_eq_false (by have:=p.out;omega);have D:decide ((80:Int)<(x.text.size:Int))=false:=decide_eq_false (by have:=v.out;omega);go_quiet (fail)
       go_wp2;go_ret;rw[g.out];exact⟨rfl,t.out _ _⟩
     .have p:Hid (¬ (200:Int)<(x.key.size:Int)):=(by omega:¬ (200:Int)<(x.key.size:Int))
      have D:(80:Int)<(x.text.size:Int):=by omega
      have g:Hid (q=false):=by show _=_;rw[<- c.out];exact nw z (yg d (Ra r))
      clear m d f c h r;go_wp2;have B:decide ((200:Int)<(x.key.size:Int))=false:=decide_eq_false (by have:=p.out;omega);go_quiet (fail)
      go_wp2;go_ret;rw[g.out];exact⟨rfl,t.out _ _⟩
    .have B:(200:Int)<(x.key.size:Int):=by omega
     have g:Hid (q=false):=by show _=_;rw[<- c.out];exact nw z (yg d (Ux h))
     clear m d f c h;go_wp2;go_quiet (fail)
     go_wp2;go_ret;rw[g.out];exact⟨rfl,t.out _ _⟩
   .have N:k=l.length:=by omega
    subst N;have g:Hid (q=true):=by show _=_;rw[<- c.out];exact wj J f.out
    clear E f c;go_wp2;go_ret;rw[g.out];exact⟨rfl,s⟩
 .have W:¬ (l.length:Int)<=60:=by omega
  rw[Jm J];clear E;go_enter func141,ntmps141;go_wp2;go_ret;exact⟨rfl,bX⟩
end Go.Proofs.YtjbmgghehdemdaaGreatDoor
