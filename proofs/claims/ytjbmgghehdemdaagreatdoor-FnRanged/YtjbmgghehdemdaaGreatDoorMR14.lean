/- ISh6 -/
import Derived.Test.YtjbmgghehdemdaaGreatDoorMR12
namespace Go.Proofs.YtjbmgghehdemdaaGreatDoor
set_option maxRecDepth 100000
set_option maxHeartbeats 16000000
open _root_.Go.Proofs.Tryz
open Go.RowKit
theorem d5 (s:ByteArray) (n:Nat) (h:n<s.size) (u:World):(Instr.index 9 (.string s) (.int .i64 (n:Int))).run prog u=.ok (.int .u8 ((bAt s n).toNat:Int)) u:=by
 rw[run_index_string (h:=underlying9),dif_pos ⟨by omega,by omega⟩];congr 3
 have a:n<s.data.toList.length:=by rw[Array.length_toList];exact h
 simp only[bAt,List.getD,List.getElem?_eq_getElem a,Option.getD_some,Int.toNat_natCast];rfl
theorem Lp (w:World) (p q:Nat):(w.drewN p).drewN q=w.drewN (p+q):=by rw[World.drewN_drewN]
def az7 (w:World) (a k:ByteArray) (i:Value) (wr:World):Prop :=
 ∃ n q:Nat,i=.int .i64 n/\n<=a.size/\n<=k.size/\n+shL (a.data.toList.drop n) (k.data.toList.drop n)=shB a k/\wr=w.drewN q
theorem Ic (a k:ByteArray) (y:a.size<=1048576) (_hk:k.size<=1048576) (w:World) :
  Calls prog 183 #[.string a,.string k] w fun e w'=>e=.returned (.int .i64 (shB a k))/\∃ n,w'=w.drewN n:=by
 obtain⟨s,c⟩:∃ s,Hid (shB a k=s):=⟨_,rfl⟩
 rw[c.out];go_enter func183,ntmps183;go_wp2;go_loopw [5] (fun i wr=>az7 w a k i wr) (fun i _=>a.size-(intOf i).toNat)
 case atStart=>exact⟨0,0,rfl,Nat.zero_le _,Nat.zero_le _,by simp[shB],rfl⟩
 case round =>
  obtain⟨n,q,rfl,v,x,p,rfl⟩:=hrel;have b:Hid _:=p;clear p;by_cases g:n<a.size
  .by_cases j:n<k.size
   .have o:(n:Int)<(a.size:Int):=by omega
    have r:(n:Int)<(k.size:Int):=by omega
    have t:=d5 a n g;have z:=d5 k n j;have l:=oc g;have m:=oc j;by_cases f:bAt a n=bAt k n
    .have d:Hid (n+1+shL (a.data.toList.drop (n+1)) (k.data.toList.drop (n+1))=shB a k):=by
      show _=_
      rw[<- b.out,l,m,shL,if_pos f];omega
     rw[f]at t;clear b l m f c;go_wp2;go_quiet (fail)
     go_wp2;exact⟨⟨n+1,_,by go_num,g,j,d.out,rfl⟩,by simp[intOf];omega⟩
    .have d:Hid (n=s):=by
      show _=_
      have:=b.out;rw[l,m,shL,if_neg f,c.out]at this;omega
     have u:((bAt a n).toNat:Int)≠((bAt k n).toNat:Int):=fun h=>f (UInt8.toNat_inj.1 (by omega))
     generalize ((bAt a n).toNat:Int)=z1 at *;generalize ((bAt k n).toNat:Int)=z2 at *;clear b l m f c;go_wp2;go_quiet (fail)
     go_wp2;go_ret;rw[d.out];exact⟨rfl,_,Lp _ _ _⟩
   .have o:(n:Int)<(a.size:Int):=by omega
    have d:Hid (n=s):=by
     show _=_
     have:=b.out;rw[P6 _ _ (yb j),c.out]at this;omega
    clear b c;go_wp2;have r:decide ((n:Int)<(k.size:Int))=false:=decide_eq_false (by omega);go_quiet (fail)
    go_wp2;go_ret;rw[d.out];exact⟨rfl,_,Lp _ _ _⟩
  .have d:Hid (n=s):=by
    show _=_
    have:=b.out;rw[P0 _ _ (yb g),c.out]at this;omega
   clear b c;go_wp2;have o:decide ((n:Int)<(a.size:Int))=false:=decide_eq_false (by omega);go_quiet (fail)
   go_wp2;go_ret;rw[d.out];exact⟨rfl,_,Lp _ _ _⟩
theorem Wu (p:ByteArray) (x:Rw):4+(x.key.size:Int)-(shB p x.key:Int)+(x.text.size:Int)+(x.val.size:Int)=((je p x).length:Int):=(sm p x).symm
theorem Wt (p:ByteArray) (x:Rw) (d:p.size<=1048576) (h0:x.key.size<=1048576) (h1:x.text.size<=1048576) (h2:x.val.size<=1048576) (w:World) :
  Calls prog 181 #[.string p,.agg #[.string x.key,.string x.text,.string x.val]] w fun e w'=>e=.returned (.int .i64 ((je p x).length:Int))/\Below w.heap.size w w':=by
 have SH:=fun u=>Ic p x.key d h0 u
 have f:=E3 p x.key;have b:Hid _:=Wu p x;have a:Hid (∀ o n,Below w.heap.size w ((w.alloc o).drewN n)):=fun o n=>⟨((Below.refl w.heap.size w).alloc bR o).os,((Below.refl w.heap.size w).alloc bR o).tape,((Below.refl w.heap.size w).alloc bR o).output,((Below.refl w.heap.size w).alloc bR o).size,((Below.refl w.heap.size w).alloc bR o).block⟩
 generalize (je p x).length=L at *;generalize shB p x.key=s at *;go_enter func181,ntmps181;go_wp2;go_quiet ((go_at_call 183;exact (SH _).mono fun e w' h=>⟨h.1,by obtain⟨n,c⟩:=h.2;exact⟨_,c.trans (Lp _ _ _)⟩⟩))
 go_wp2;go_ret;have e:=b.out;exact⟨by rw[<- e];rfl,a.out _ _⟩
def az0 (w:World) (l:List Rw) (v3 v4 i:Value) (wr:World):Prop :=
 ∃ k:Nat,k<=l.length/\i=.int .i64 k/\v3=.int .i64 ((3+(eh ⟨#[]⟩ (l.take k)).length:Nat):Int)/\v4=.string (ie ⟨#[]⟩ (l.take k))/\Below w.heap.size w wr
theorem a13 (l:List Rw):(et l).length=3+(eh ⟨#[]⟩ l).length:=by
 unfold et;rw[List.length_append];rfl
theorem Rh {w:World} {a:Option Addr} {l:List Rw} {cap:Nat}(t:dd w a l) (s:RwB l) :
  Calls prog 204 #[.slice a l.length cap] w fun e w'=>e=.returned (.int .i64 ((et l).length:Int))/\Below w.heap.size w w':=by
 have W:=s.1;have g:=hZ s;have N:Hid _:=a13 l;clear s;generalize (et l).length=P at *;go_enter func204,ntmps204;go_wp2;go_loopw [3,4,9] (fun v3 v4 i wr=>az0 w l v3 v4 i wr) (fun _ _ i _=>l.length-(intOf i).toNat)
 case atStart=>exact⟨0,Nat.zero_le _,rfl,rfl,rfl,bX⟩
 case round =>
  obtain⟨k,V,rfl,rfl,rfl,d⟩:=hrel;by_cases y:k<l.length
  .obtain⟨x,c⟩:∃ x,l[k]? = some x:=⟨_,List.getElem?_eq_getElem y⟩
   have F:=t.below d bR;rcases F with rfl|⟨b,o,rfl,D⟩
   .simp at c
   obtain⟨B,Q,R⟩:=D k x c;have H:=ag B;have U:(k:Int)<(l.length:Int):=by omega
   have v:=d.alloc d.size (.cells #[.string x.key,.string x.text,.string x.val] 37);have z:=g.out.at c;have K:=uu g.out k;have L:=zi g.out k;have J:=F7 (p:=ie ⟨#[]⟩ (l.take k)) z;have q:=fun u=>Wt (ie ⟨#[]⟩ (l.take k)) x (by omega) (by omega) (by omega) (by omega) u
   have O:Hid _:=Bc ⟨#[]⟩ c;have M:Hid _:=Av ⟨#[]⟩ c;have f:Hid _:=v;have G:wr.heap.size<(wr.alloc (.cells #[.string x.key,.string x.text,.string x.val] 37)).heap.size:=by simp
   have C:(wr.alloc (.cells #[.string x.key,.string x.text,.string x.val] 37)).cell? ⟨wr.heap.size,0,none⟩=some (.string x.key):=by simp
   obtain⟨m,h⟩:∃ m,Hid (m=3+(eh ⟨#[]⟩ (l.take k)).length):=⟨_,rfl⟩
   rw[<- h.out];have X:m<=200000:=by have:=h.out;omega
   obtain⟨n,j⟩:∃ n,Hid (n=(je (ie ⟨#[]⟩ (l.take k)) x).length):=⟨_,rfl⟩
   rw[<- j.out]at q;have Y:n<=769:=by have:=j.out;omega
   generalize ie ⟨#[]⟩ (l.take k)=pk at *;have A:Hid _:=C;clear D c t d v z K L J C;go_wp2_with fail;refine (q _).mono ?_;rintro e S ⟨rfl,r⟩;have T:S.cell? ⟨wr.heap.size,0,none⟩=some (.string x.key):=by rw[r.cell G];exact A.out
   have E:=hZ (f.out.trans (r.mono f.out.size));clear A f r q B Q R H;go_wp2;refine⟨⟨k+1,y,by go_num,?_,by rw[M.out],E.out⟩,by simp[intOf];omega⟩;rw[O.out,List.length_append,<- j.out,<- Nat.add_assoc,<- h.out];go_num
  .have I:k=l.length:=by omega
   subst I;rw[Bk,<- N.out];clear t;go_wp2;go_ret;exact⟨rfl,d⟩
theorem an1 {w:World} {a:Option Addr} {l:List Rw} {cap:Nat}(d:dd w a l) (c:RwB l) :
  Calls prog 182 #[.slice a l.length cap] w fun e w'=>e=.returned (.bool (decide ((et l).length<=300)))/\Below w.heap.size w w':=by
 have b:=Rh (cap:=cap) d c;have f:Hid (decide (((et l).length:Int)<=300)=decide ((et l).length<=300)):=by
  show _=_
  by_cases h:(et l).length<=300
  .rw[decide_eq_true h,decide_eq_true (by omega)]
  .rw[decide_eq_false h,decide_eq_false (by omega)]
 generalize (et l).length=P at *;clear d c;go_enter func182,ntmps182;go_wp2_with fail;refine b.mono ?_;rintro e i ⟨rfl,g⟩;clear b;go_wp2;go_ret;have e:=f.out;exact⟨by rw[<- e];rfl,g⟩
theorem ii {B:Nat} {w u:World}(h:Below B w u) (n:Nat):Below B w (u.drewN n):=⟨h.os,h.tape,h.output,h.size,h.block⟩
def ay2 (w:World) (l:List Rw) (i:Value) (wr:World):Prop:=∃ k:Nat,k<=l.length/\i=.int .i64 k/\(∀ j,j<k->lq l j=true)/\Below w.heap.size w wr
theorem Vg {w:World} {a:Option Addr} {l:List Rw} {cap:Nat}(z:dd w a l) (V:l.length<=9223372036854775807) :
  Calls prog 160 #[.slice a l.length cap] w fun e w'=>e=.returned (.bool (dm l))/\Below w.heap.size w w':=by
 by_cases F:l.length<=60
 .obtain⟨p,c⟩:∃ p,Hid (dm l=p):=⟨_,rfl⟩
  rw[c.out];go_enter func160,ntmps160;go_wp2;go_loopw [10] (fun i wr=>ay2 w l i wr) (fun i _=>l.length-(intOf i).toNat)
  case atStart=>exact⟨0,Nat.zero_le _,rfl,fun j hj=>by omega,bX⟩
  case round =>
   obtain⟨k,U,rfl,I,r⟩:=hrel;have f:Hid _:=I;clear I;by_cases t:k<l.length
   .obtain⟨x,d⟩:∃ x,l[k]? = some x:=⟨_,List.getElem?_eq_getElem t⟩
    have J:=z.below r bR;rcases J with rfl|⟨b,o,rfl,m⟩
    .simp at d
    obtain⟨G,L,M⟩:=m k x d;have O:=ag G;have S:(k:Int)<(l.length:Int):=by omega
    have C:Hid (∀ o n,Below w.heap.size w ((wr.alloc o).drewN n)):=fun o n=>ii (r.alloc r.size o) n
    have B:Hid (∀ o,Below w.heap.size w (wr.alloc o)):=fun o=>r.alloc r.size o
    clear z r;by_cases h:x.key.size<=200
    .by_cases q:x.text.size<=80
     .by_cases s:x.val.size<=80
      .have v:=Gd h q s
       have E:¬ (200:Int)<(x.key.size:Int):=by omega
       have H:¬ (80:Int)<(x.text.size:Int):=by omega
       have N:¬ (80:Int)<(x.val.size:Int):=by omega
       cases k with
       | zero =>
        simp only[Nat.zero_mul,Nat.add_zero]at G L M;have D:Hid _:=yh f.out (by rw[Ko d];exact v);clear m d f v c h q s;go_wp2;go_quiet (fail)
        go_wp2;exact⟨⟨1,by omega,by go_num,D.out,C.out _ _⟩,by simp[intOf];omega⟩
       | succ j =>
        obtain⟨y,A⟩:∃ y,l[j]? = some y:=⟨_,List.getElem?_eq_getElem (by omega)⟩
        obtain⟨W,_,_⟩:=m j y A;have P:(((j+1:Nat):Int)-1).toNat=j:=by omega
        have Q:((j+1:Nat):Int)-1=(j:Int):=by omega
        have R:(j:Int)<(l.length:Int):=by omega
        have u:=Kn d A;rw[v,Bool.true_and]at u
        cases hlk:ltK y.key x.key
        .have g:Hid (p=false):=by show _=_;rw[<- c.out];exact n5 t (u.trans hlk)
         unfold ltK at hlk;clear m d A f v c h q s u;go_wp2;go_quiet (fail)
         go_wp2;go_ret;rw[g.out];exact⟨rfl,C.out _ _⟩
        .have D:Hid _:=yh f.out (u.trans hlk)
         unfold ltK at hlk;clear m d A f v c h q s u;go_wp2;go_quiet (fail)
         go_wp2;exact⟨⟨j+1+1,by omega,by go_num,D.out,C.out _ _⟩,by simp[intOf];omega⟩
      .have E:¬ (200:Int)<(x.key.size:Int):=by omega
       have H:¬ (80:Int)<(x.text.size:Int):=by omega
       have N:(80:Int)<(x.val.size:Int):=by omega
       have g:Hid (p=false):=by show _=_;rw[<- c.out];exact n5 t (wk d (Tg s))
       clear m d f c h q s;go_wp2;go_ret;rw[g.out];exact⟨rfl,B.out _⟩
     .have E:¬ (200:Int)<(x.key.size:Int):=by omega
      have H:(80:Int)<(x.text.size:Int):=by omega
      have g:Hid (p=false):=by show _=_;rw[<- c.out];exact n5 t (wk d (Pl q))
      clear m d f c h q;go_wp2;go_ret;rw[g.out];exact⟨rfl,B.out _⟩
    .have E:(200:Int)<(x.key.size:Int):=by omega
     have g:Hid (p=false):=by show _=_;rw[<- c.out];exact n5 t (wk d (Tf h))
     clear m d f c h;go_wp2;go_ret;rw[g.out];exact⟨rfl,B.out _⟩
   .have K:k=l.length:=by omega
    subst K;have g:Hid (p=true):=by show _=_;rw[<- c.out];exact ue F f.out
    clear z f c;go_wp2;go_ret;rw[g.out];exact⟨rfl,r⟩
 .have T:¬ (l.length:Int)<=60:=by omega
  rw[Hh F];clear z;go_enter func160,ntmps160;go_wp2;go_ret;exact⟨rfl,bX⟩
end Go.Proofs.YtjbmgghehdemdaaGreatDoor
