/- SGood6 -/
import Derived.Test.YtjbmgghehdemdaaGreatDoorMR12
import Derived.Shelf.Pu.Clone
import Derived.Deep.RegionHeld
namespace Go.Proofs.YtjbmgghehdemdaaGreatDoor
set_option maxRecDepth 100000
set_option maxHeartbeats 16000000
open _root_.Go.Proofs.Tryz
open Go.RowKit
theorem L2 {B:Nat} {w u:World}(h:Below B w u) (n:Nat):Below B w (u.drewN n):=⟨h.os,h.tape,h.output,h.size,h.block⟩
def ar6 (w:World) (l:List Rw) (i:Value) (wr:World):Prop:=∃ k:Nat,k<=l.length/\i=.int .i64 k/\(∀ j,j<k->lq l j=true)/\Below w.heap.size w wr
theorem Xd {w:World} {a:Option Addr} {l:List Rw} {cap:Nat}(E:dd w a l) (Y:l.length<=9223372036854775807) :
  Calls prog 141 #[.slice a l.length cap] w fun e w'=>e=.returned (.bool (dm l))/\Below w.heap.size w w':=by
 by_cases J:l.length<=60
 .obtain⟨q,c⟩:∃ q,Hid (dm l=q):=⟨_,rfl⟩
  rw[c.out];go_enter func141,ntmps141;go_wp2;go_loopw [10] (fun i wr=>ar6 w l i wr) (fun i _=>l.length-(intOf i).toNat)
  case atStart=>exact⟨0,Nat.zero_le _,rfl,fun j hj=>by omega,bX⟩
  case round =>
   obtain⟨k,X,rfl,L,s⟩:=hrel;have f:Hid _:=L;clear L;by_cases z:k<l.length
   .obtain⟨x,d⟩:∃ x,l[k]? = some x:=⟨_,List.getElem?_eq_getElem z⟩
    have M:=E.below s bR;rcases M with rfl|⟨b,o,rfl,m⟩
    .simp at d
    obtain⟨K,O,P⟩:=m k x d;have R:=ag K;have V:(k:Int)<(l.length:Int):=by omega
    have t:Hid (∀ o n,Below w.heap.size w ((wr.alloc o).drewN n)):=fun o n=>L2 (s.alloc s.size o) n
    have Q:Hid (∀ o,Below w.heap.size w (wr.alloc o)):=fun o=>s.alloc s.size o
    clear E s;by_cases h:x.key.size<=200
    .by_cases r:x.text.size<=80
     .by_cases u:x.val.size<=80
      .have C:=Gd h r u
       have p:Hid (¬ (200:Int)<(x.key.size:Int)):=(by omega:¬ (200:Int)<(x.key.size:Int));have v:Hid (¬ (80:Int)<(x.text.size:Int)):=(by omega:¬ (80:Int)<(x.text.size:Int));have G:Hid (¬ (80:Int)<(x.val.size:Int)):=(by omega:¬ (80:Int)<(x.val.size:Int))
       cases k with
       | zero =>
        simp only[Nat.zero_mul,Nat.add_zero]at K O P;have H:Hid _:=yh f.out (by rw[Ko d];exact C);clear m d f C c h r u;go_wp2;have B:decide ((200:Int)<(x.key.size:Int))=false:=decide_eq_false (by have:=p.out;omega);have D:decide ((80:Int)<(x.text.size:Int))=false:=decide_eq_false (by have:=v.out;omega);have I:decide ((80:Int)<(x.val.size:Int))=false:=decide_eq_false (by have:=G.out;omega);go_quiet (fail)
        go_wp2;exact⟨⟨1,by omega,by go_num,H.out,t.out _ _⟩,by simp[intOf];omega⟩
       | succ j =>
        obtain⟨y,F⟩:∃ y,l[j]? = some y:=⟨_,List.getElem?_eq_getElem (by omega)⟩
        obtain⟨Z,_,_⟩:=m j y F;have S:(((j+1:Nat):Int)-1).toNat=j:=by omega
        have T:((j+1:Nat):Int)-1=(j:Int):=by omega
        have U:(j:Int)<(l.length:Int):=by omega
        have A:=Kn d F;rw[C,Bool.true_and]at A
        cases hlk:ltK y.key x.key
        .have g:Hid (q=false):=by show _=_;rw[<- c.out];exact n5 z (A.trans hlk)
         unfold ltK at hlk;clear m d F f C c h r u A;go_wp2;have B:decide ((200:Int)<(x.key.size:Int))=false:=decide_eq_false (by have:=p.out;omega);have D:decide ((80:Int)<(x.text.size:Int))=false:=decide_eq_false (by have:=v.out;omega);have I:decide ((80:Int)<(x.val.size:Int))=false:=decide_eq_false (by have:=G.out;omega);go_quiet (fail)
         go_wp2;go_ret;rw[g.out];exact⟨rfl,t.out _ _⟩
        .have H:Hid _:=yh f.out (A.trans hlk)
         unfold ltK at hlk;clear m d F f C c h r u A;go_wp2;have B:decide ((200:Int)<(x.key.size:Int))=false:=decide_eq_false (by have:=p.out;omega);have D:decide ((80:Int)<(x.text.size:Int))=false:=decide_eq_false (by have:=v.out;omega);have I:decide ((80:Int)<(x.val.size:Int))=false:=decide_eq_false (by have:=G.out;omega);go_quiet (fail)
         go_wp2;exact⟨⟨j+1+1,by omega,by go_num,H.out,t.out _ _⟩,by simp[intOf];omega⟩
      .have p:Hid (¬ (200:Int)<(x.key.size:Int)):=(by omega:¬ (200:Int)<(x.key.size:Int))
       have v:Hid (¬ (80:Int)<(x.text.size:Int)):=(by omega:¬ (80:Int)<(x.text.size:Int));have I:(80:Int)<(x.val.size:Int):=by omega
       have g:Hid (q=false):=by show _=_;rw[<- c.out];exact n5 z (wk d (Tg u))
       clear m d f c h r u;go_wp2;have B:decide ((200:Int)<(x.key.size:Int))=false:=decide_eq_false (by have:=p.out;omega);have D:decide ((80:Int)<(x.text.size:Int))=false:=decide_eq_false (by have:=v.out;omega);go_quiet (fail)
       go_wp2;go_ret;rw[g.out];exact⟨rfl,t.out _ _⟩
     .have p:Hid (¬ (200:Int)<(x.key.size:Int)):=(by omega:¬ (200:Int)<(x.key.size:Int))
      have D:(80:Int)<(x.text.size:Int):=by omega
      have g:Hid (q=false):=by show _=_;rw[<- c.out];exact n5 z (wk d (Pl r))
      clear m d f c h r;go_wp2;have B:decide ((200:Int)<(x.key.size:Int))=false:=decide_eq_false (by have:=p.out;omega);go_quiet (fail)
      go_wp2;go_ret;rw[g.out];exact⟨rfl,t.out _ _⟩
    .have B:(200:Int)<(x.key.size:Int):=by omega
     have g:Hid (q=false):=by show _=_;rw[<- c.out];exact n5 z (wk d (Tf h))
     clear m d f c h;go_wp2;go_quiet (fail)
     go_wp2;go_ret;rw[g.out];exact⟨rfl,t.out _ _⟩
   .have N:k=l.length:=by omega
    subst N;have g:Hid (q=true):=by show _=_;rw[<- c.out];exact ue J f.out
    clear E f c;go_wp2;go_ret;rw[g.out];exact⟨rfl,s⟩
 .have W:¬ (l.length:Int)<=60:=by omega
  rw[Hh J];clear E;go_enter func141,ntmps141;go_wp2;go_ret;exact⟨rfl,bX⟩
def ae7:Go.Shelf.Ren:=⟨fun|25=>148|n=>n,fun|0=>0|3=>3|4=>4|5=>5|9=>9|37=>22|47=>234|n=>n,fun|n=>n⟩
theorem b35:Go.Proofs.LaysPu.n25 prog ae7:={
 mixed:=by kernel_rfl
 f25:=Tryz.func148.trans (congrArg some (by kernel_rfl))
 t0:=underlying0
 a0:=Tryz.isAgg0
 z0:=Tryz.sizeOf0
 v0:=Tryz.zeroValue0
 i0:=by kernel_rfl
 t3:=underlying3
 a3:=Tryz.isAgg3
 z3:=Tryz.sizeOf3
 v3:=Tryz.zeroValue3
 i3:=by kernel_rfl
 t4:=underlying4
 a4:=Tryz.isAgg4
 z4:=Tryz.sizeOf4
 v4:=Tryz.zeroValue4
 i4:=by kernel_rfl
 t5:=underlying5
 a5:=Tryz.isAgg5
 z5:=Tryz.sizeOf5
 v5:=Tryz.zeroValue5
 i5:=by kernel_rfl
 t9:=underlying9
 a9:=Tryz.isAgg9
 z9:=Tryz.sizeOf9
 v9:=Tryz.zeroValue9
 i9:=by kernel_rfl
 t37:=underlying22
 a37:=Tryz.isAgg22
 z37:=Tryz.sizeOf22
 v37:=Tryz.zeroValue22
 i37:=by kernel_rfl
 t47:=underlying234
 a47:=Tryz.isAgg234
 z47:=Tryz.sizeOf234
 v47:=Tryz.zeroValue234
 i47:=by kernel_rfl }
theorem Jm (s:ByteArray) (w:World) (b:s.size<=1048576):Calls prog 123 #[.string s] w fun e w'=>e=.returned (.string s)/\Below w.heap.size w w':=by
 have C:Calls prog 148 #[.string s] w fun e w'=>e=.returned (.string s)/\Below w.heap.size w w':=Go.Proofs.AnyPu.stringslite_Clone b35 s w (by omega)
 go_enter func123,ntmps123;go_wp2_with fail;refine C.mono ?_;rintro e c ⟨rfl,a⟩;clear C;go_wp2;go_ret;exact⟨rfl,a⟩
theorem Bh (w:World) (a b:Option Addr) (c d:Nat):Calls prog 12 #[.slice a 0 c,.slice b 0 d] w fun e w'=>e=.returned (.bool true)/\Below w.heap.size w w':=by
 go_enter func12,ntmps12;go_wp2;go_loopw [13] (fun i wr=>i=.int .i64 0/\wr=w) (fun _ _=>0)
 case atStart=>exact⟨rfl,rfl⟩
 case round =>
  obtain⟨rfl,rfl⟩:=hrel;go_wp2;go_ret;exact⟨rfl,bX⟩
def az5 (w:World) (n:Nat) (i:Value) (wr:World):Prop:=∃ k:Nat,k<=n/\i=.int .i64 k/\Below w.heap.size w wr
theorem a41 (w:World) (B f g g' cap c:Nat) (es:List Rw) (t:es.length<=1048576) (h1:Rws w B (.slice (some ⟨g,0,none⟩) es.length cap) es) (h2:Rws w f (.slice (some ⟨g',0,none⟩) es.length c) es) :
  Calls prog 12 #[.slice (some ⟨g,0,none⟩) es.length cap,.slice (some ⟨g',0,none⟩) es.length c] w fun e w'=>e=.returned (.bool true)/\Below w.heap.size w w':=by
 have r:=(World.ownsRow.lt h1 g rfl).2;have h:=(World.ownsRow.lt h2 g' rfl).2;go_enter func12,ntmps12;go_wp2;go_loopw [13] (fun i wr=>az5 w es.length i wr) (fun i _=>es.length-(intOf i).toNat)
 case atStart=>exact⟨0,Nat.zero_le _,rfl,bX⟩
 case round =>
  obtain⟨k,s,rfl,a⟩:=hrel;by_cases d:k<es.length
  .obtain⟨e,b⟩:∃ e,es[k]? = some e:=⟨_,List.getElem?_eq_getElem d⟩
   obtain⟨l,m,n⟩:=(h1.below a).cells k e b;obtain⟨o,p,q⟩:=(h2.below a).cells k e b;have j:(k:Int)<(es.length:Int):=by omega
   clear b h1 h2;go_wp2_with fail;go_region
   all_goals
    go_wp2;exact⟨⟨k+1,by omega,by go_num,a.drew⟩,by simp[intOf];omega⟩
  .go_wp2
   go_ret;exact⟨rfl,a⟩
theorem a40 {w:World} {B f:Nat} {a b:Value} {es:List Rw}(k:es.length<=1048576) (i:Rws w B a es) (c:Rws w f b es) :
  Calls prog 12 #[a,b] w fun e w'=>e=.returned (.bool true)/\Below w.heap.size w w':=by
 rcases i.form with ⟨rfl,rfl⟩|⟨g,j,rfl,l,m⟩
 .rcases c.form with ⟨rfl,_⟩|⟨h,d,rfl,_,_⟩
  .exact Bh w _ _ _ _
  .exact Bh w _ _ _ _
 .rcases c.form with ⟨rfl,rfl⟩|⟨h,d,rfl,_,_⟩
  .exact Bh w _ _ _ _
  .exact a41 w B f g h j d es k i c
end Go.Proofs.YtjbmgghehdemdaaGreatDoor
