/- IDoX7 -/
import Derived.Test.YtjbmgghehdemdaaGreatDoorMS39
import Derived.Test.YtjbmgghehdemdaaGreatDoorMS34
import Derived.Test.YtjbmgghehdemdaaGreatDoorMS40
namespace Go.Proofs.YtjbmgghehdemdaaGreatDoor
set_option maxRecDepth 100000
set_option maxHeartbeats 16000000
open _root_.Go.Proofs.Tryz
open Go.RowKit
theorem a90 {d:Ds7} {l:List Rw}(h:fb d=some l):d.log.size<=6000:=by
 by_cases a:d.log.size<=6000
 .exact a
 .unfold fb at h
  rw[Au a]at h
  cases h
theorem ae4 (R:RA) (l:List Rw) (o:Dn):apC R l o≠1:=by
 unfold apC;split
 .decide
 .split
  .split <;> decide
  .split <;> decide
theorem ah5 (d:Ds7) (l:List Rw) (k:Int) (x v:ByteArray):(doL d l k x v).1≠1/\(doL d l k x v).2.r=d.r:=by
 have a:(0:Int)≠1:=by decide
 have b:(3:Int)≠1:=by decide
 unfold doL;split
 .exact⟨a,rfl⟩
 .split
  .split
   .exact⟨a,rfl⟩
   .exact⟨b,rfl⟩
  .split
   .split
    .exact⟨a,rfl⟩
    .exact⟨b,rfl⟩
   .exact⟨ae4 _ _ _,rfl⟩
theorem ay2 (w:World) (g:Nat) (a b c d:Value):w.grownBy ((((w.setCell ⟨g,0,none⟩ a).setCell ⟨g,1,none⟩ b).setCell ⟨g,2,none⟩ c).setCell ⟨g,3,none⟩ d) (some g) :=
 ⟨rfl,rfl,rfl,by simp,fun q hq hn=>by
  have n:¬ q=g:=fun e=>hn (by rw[e])
  rw[heap_setCell_other _ ⟨g,3,none⟩ q _ n,heap_setCell_other _ ⟨g,2,none⟩ q _ n,heap_setCell_other _ ⟨g,1,none⟩ q _ n,heap_setCell_other _ ⟨g,0,none⟩ q _ n]⟩
def DoQ (w:World) (p:Int × Ds7) (e:Ending) (w':World):Prop :=
 ∃ vp,e=.returned (.tuple #[.agg #[.string p.2.r,vp,.string p.2.log,.int .i64 p.2.syn],.int .i64 p.1])/\ah w' w.heap.size vp p.2.ss/\Below w.heap.size w w'
theorem ah2 (hO:ya){w:World} {B:Nat} {vd:Value} {d:Ds7} {ty:TypeId} {pv:Value} {pb pl pf pn:Addr}(k:Int) (x v:ByteArray) (hx:x.size<=1048576) (hv:v.size<=1048576) (V:Dk7 w B vd d) (hE:ql w ty pv pb pl pf pn) (hS:Es7 w pb pl pf pn) :
  Calls prog 7 #[.agg #[.string d.r,vd,.string d.log,.int .i64 d.syn],.agg #[.int .i64 k,.string x,.string v]] w fun e w'=>DoQ w (do7 d k x v) e w':=by
 obtain⟨p,s,au⟩:=V.form;subst au;obtain⟨W0,t⟩:∃ W0,W0=((w.alloc (.cells #[.string d.r,.slice p d.ss.length s,.string d.log,.int .i64 d.syn] 25)).alloc (.cells #[.int .i64 k,.string x,.string v] 27)).alloc (.cells #[.string ⟨#[]⟩,.slice none 0 0,.string ⟨#[]⟩,.int .i64 0] 25):=⟨_,rfl⟩
 have A:Below w.heap.size w W0:=by rw[t];exact ((bY _).alloc (by simp) _).alloc (by simp;omega) _
 have h0:W0.heap.size=w.heap.size+3:=by rw[t];simp
 have u:Hid (W0.heap[w.heap.size]? = some (.cells #[.string d.r,.slice p d.ss.length s,.string d.log,.int .i64 d.syn] 25)):=by
  show _=_
  rw[t,Below.heap_alloc _ _ _ (by simp;omega),Below.heap_alloc _ _ _ (by simp)];exact heap_alloc_new w _
 have a1:Hid (W0.heap[w.heap.size+1]? = some (.cells #[.int .i64 k,.string x,.string v] 27)):=by
  show _=_
  have q:=heap_alloc_new (w.alloc (.cells #[.string d.r,.slice p d.ss.length s,.string d.log,.int .i64 d.syn] 25)) (.cells #[.int .i64 k,.string x,.string v] 27);rw[World.size_alloc]at q;rw[t,Below.heap_alloc _ _ _ (by simp)];exact q
 have a2:Hid (W0.heap[w.heap.size+2]? = some (.cells #[.string ⟨#[]⟩,.slice none 0 0,.string ⟨#[]⟩,.int .i64 0] 25)):=by
  show _=_
  have q:=heap_alloc_new ((w.alloc (.cells #[.string d.r,.slice p d.ss.length s,.string d.log,.int .i64 d.syn] 25)).alloc (.cells #[.int .i64 k,.string x,.string v] 27)) (.cells #[.string ⟨#[]⟩,.slice none 0 0,.string ⟨#[]⟩,.int .i64 0] 25);rw[World.size_alloc,World.size_alloc]at q;rw[t];exact q
 have S:Hid (W0=((w.alloc (.cells #[.string d.r,.slice p d.ss.length s,.string d.log,.int .i64 d.syn] 25)).alloc (.cells #[.int .i64 k,.string x,.string v] 27)).alloc (.cells #[.string ⟨#[]⟩,.slice none 0 0,.string ⟨#[]⟩,.int .i64 0] 25)):=t;have I:=zd hO (V.below A) (hE.below A);have C:=hZ A;have Q:=hZ (hE.below A);have R:=hZ (hS.below A);have a8:Hid (Ok7 d):=V.ok;have g0:=cell_of_row _ _ 0 _ _ _ u.out;have g1:=cell_of_row _ _ 1 _ _ _ u.out;have g2:=cell_of_row _ _ 2 _ _ _ u.out;have g3:=cell_of_row _ _ 3 _ _ _ u.out;obtain⟨o,ho⟩:∃ o,o=ch d:=⟨_,rfl⟩
 have L:Hid (o=ch d):=ho;rw[<- ho]at I;clear V hE hS A t ho
 cases o with
 | none =>
  have F:do7 d k x v=(1,zD7):=by
   unfold do7
   cases hq:fb d with
   | none=>rfl
   | some l =>
    have g:lq d=false:=by
     cases hs:lq d
     .rfl
     .have:=L.out
      unfold ch at this;rw[hs,hq]at this
      cases this
    show (if (lq d && er k x v)=true then _ else _)=_
    rw[g];rfl
  have y:Hid (do7 d k x v=(1,zD7)):=F;have E:Calls prog 29 #[.agg #[.string d.r,.slice p d.ss.length s,.string d.log,.int .i64 d.syn]] W0 fun e w'=>(∃ b,e=.returned (.tuple #[zIx,b])/\Bw pb b)/\Below W0.heap.size W0 w':=I
  clear I F;go_enter func7,ntmps7;go_upto_region 1 with fail
  rw[<- S.out];go_wp2_with fail;refine E.mono ?_;rintro e f ⟨⟨b,rfl,i⟩,a⟩;have H:Hid (∀ o,Calls prog 31 #[b] (f.alloc o) fun e w'=>e=.returned (.int .i64 1)/\Below (f.alloc o).heap.size (f.alloc o) w'):=fun o=>J6 (R.out.below (a.alloc a.size o)) (.inr (.inl ⟨i,rfl⟩))
  have X:=hZ a;have an:=a.size;unfold zIx;clear E a Q R u a1 S a8 L g0 g1 g2 g3;have hn:b≠.nilIface:=by rcases i with rfl|⟨kk,rfl⟩ <;> (intro c;cases c)
  obtain⟨J,ex,rfl⟩:∃ J ex,b=.iface J ex:=by rcases i with rfl|⟨kk,rfl⟩ <;> exact⟨_,_,rfl⟩
  clear i hn;go_wp2_with fail;refine (H.out _).mono ?_;rintro e w2 ⟨rfl,b2⟩;have U:Below W0.heap.size W0 w2:=X.out.trans ((((Below.refl f.heap.size f).alloc bR _).trans (b2.mono (by simp))).mono X.out.size);have m:=(U.block (w.heap.size+2) (by omega)).trans a2.out;have ax:Hid (w2.heap[w.heap.size+2]? = some (.cells #[.string ⟨#[]⟩,.slice none 0 0,.string ⟨#[]⟩,.int .i64 0] 25)):=m;have ai:=hZ (C.out.trans (U.mono C.out.size));have ao:=U.size;have q0:=cell_of_row _ _ 0 _ _ _ m;have q1:=cell_of_row _ _ 1 _ _ _ m;have q2:=cell_of_row _ _ 2 _ _ _ m;have q3:=cell_of_row _ _ 3 _ _ _ m;have qf:=fun j=>frozen_of_row _ _ j _ _ m
  clear H b2 U m X a2 C;go_wp2;refine bodyPost_ret (v:=.tuple #[.agg #[.string zD7.r,.slice none 0 0,.string zD7.log,.int .i64 zD7.syn],.int .i64 1]) ?_ rfl ?_
  .rw[results_cell_tmp rfl]
   unfold zD7;go_simp
  .show DoQ w (do7 d k x v) _ _
   rw[y.out];exact⟨_,rfl,World.ownsRow_nil _ _ _ _,(((ai.out.setCell (by show w.heap.size<=w.heap.size+1+1;omega) _).setCell (by show w.heap.size<=w.heap.size+1+1;omega) _).setCell (by show w.heap.size<=w.heap.size+1+1;omega) _).setCell (by show w.heap.size<=w.heap.size+1+1;omega) _⟩
 | some l =>
  obtain⟨ag,G⟩:=kz L.out.symm;have F:do7 d k x v=if er k x v=true then doL d l k x v else (1,zD7):=by
   unfold do7;rw[G];show (if (lq d && er k x v)=true then _ else _)=_
   rw[ag,Bool.true_and]
  have y:Hid (do7 d k x v=if er k x v=true then doL d l k x v else (1,zD7)):=F;have am:=At G;have af:=qi a8.out G;have al:=a90 G;have E:Calls prog 29 #[.agg #[.string d.r,.slice p d.ss.length s,.string d.log,.int .i64 d.syn]] W0 fun e w'=>(∃ ve vp vr,e=.returned (.tuple #[ixV ve (ab d.r) d.r vp d.log d.syn vr,.nilIface])/\ac w' W0.heap.size ve (ab d.r).es/\ah w' W0.heap.size vp d.ss/\Rws w' W0.heap.size vr l)/\Below W0.heap.size W0 w':=I
  clear I F ag G;go_enter func7,ntmps7;go_upto_region 1 with fail
  rw[<- S.out];go_wp2_with fail;refine E.mono ?_;rintro e f ⟨⟨ve,vp,vr,rfl,g,h2,h3⟩,a⟩;obtain⟨va,vc,aq⟩:=qd g;subst aq;obtain⟨ap,cp,av,_⟩:=gz h2;subst av;obtain⟨ar,cr,aw⟩:=db h3;subst aw;obtain⟨w2,O⟩:∃ w2,w2=f.alloc (.cells #[.slice va (ab d.r).es.length vc,.bool (ab d.r).sh,.int .i64 (ab d.r).lv,.string d.r,.slice ap d.ss.length cp,.string d.log,.int .i64 d.syn,.slice ar l.length cr] 71):=⟨_,rfl⟩
  have a9:Hid (w2=f.alloc (.cells #[.slice va (ab d.r).es.length vc,.bool (ab d.r).sh,.int .i64 (ab d.r).lv,.string d.r,.slice ap d.ss.length cp,.string d.log,.int .i64 d.syn,.slice ar l.length cr] 71)):=O;have hI:Ix7 w2 W0.heap.size f.heap.size (.slice va (ab d.r).es.length vc) (ab d.r) d.r (.slice ap d.ss.length cp) d.ss d.log d.syn (.slice ar l.length cr) l:=by rw[O];exact a67 g h2 h3 a.size
  have z:Below W0.heap.size W0 w2:=by rw[O];exact a.alloc a.size _
  have a0:=hZ z;have DO:=b59 k x v hx hv hI ⟨hI.ents,am,(Q.out.below z).tabs⟩ (Q.out.below z).errs af.rise af.len al;have N:=(z.block (w.heap.size+1) (by omega)).trans a1.out;have r0:=cell_of_row _ _ 0 _ _ _ N;have r1:=cell_of_row _ _ 1 _ _ _ N;have r2:=cell_of_row _ _ 2 _ _ _ N;have an:=a.size;have ao:=z.size;unfold ixV;clear E g h2 h3 a hI O z N g0 g1 g2 g3 Q u S;go_upto_region 3 with fail
  rw[<- a9.out];go_wp2_with fail;refine DO.mono ?_;rintro e w3 ⟨b3,b,rfl,a4,aB,aC,l',I3⟩;have az:=b3.size;have a3:Below W0.heap.size W0 w3:=a0.out.trans b3;have H:=J6 (R.out.below a3) a4;have a7:=hZ I3;have W:=hZ a3;obtain⟨J,ex,i⟩|i:(∃ J ex,b=.iface J ex)\/b=.nilIface:=by
   rcases a4 with ⟨rfl,_⟩|⟨h,_⟩|⟨rfl,_⟩|⟨rfl,_⟩|⟨rfl,_⟩
   .exact .inr rfl
   .rcases h with rfl|⟨kk,rfl⟩ <;> exact .inl ⟨_,_,rfl⟩
   .exact .inl ⟨_,_,rfl⟩
   .exact .inl ⟨_,_,rfl⟩
   .exact .inl ⟨_,_,rfl⟩
  all_goals
   subst i;clear DO b3 a3 I3 a4 R a0 a9 a1 L r0 r1 r2;go_wp2_with fail;refine H.mono ?_;rintro e w4 ⟨rfl,b4⟩;have M:Below W0.heap.size W0 w4:=W.out.trans (b4.mono W.out.size);have n:=(M.block (w.heap.size+2) (by omega)).trans a2.out;have aj:Hid (w4.heap[w.heap.size+2]? = some (.cells #[.string ⟨#[]⟩,.slice none 0 0,.string ⟨#[]⟩,.int .i64 0] 25)):=n;have a6:=hZ (C.out.trans (M.mono C.out.size));have aA:=M.size;have T:=a7.out.below b4;obtain⟨aa,ae,a5,_⟩:=gz T.pages;subst a5;have Z:=hZ T;obtain⟨ay,i0,i1,i2,i3,i4,i5,i6,i7,i8⟩:=T.box.facts;have q0:=cell_of_row _ _ 0 _ _ _ n
   have q1:=cell_of_row _ _ 1 _ _ _ n;have q2:=cell_of_row _ _ 2 _ _ _ n;have q3:=cell_of_row _ _ 3 _ _ _ n;have qf:=fun j=>frozen_of_row _ _ j _ _ n
   clear H b4 M n a7 W T
   cases hg:er k x v
   .have hd:doG d l k x v=(1,d):=by unfold doG;rw[hg];rfl
    have K:do7 d k x v=(1,zD7):=by rw[y.out,hg];rfl
    have Y:Hid (do7 d k x v=(1,zD7)):=K;have g:(doG d l k x v).1=1:=by rw[hd]
    rw[g];clear hd K g hg y Z;generalize (doG d l k x v).2=D at *;go_wp2;refine bodyPost_ret (v:=.tuple #[.agg #[.string zD7.r,.slice none 0 0,.string zD7.log,.int .i64 zD7.syn],.int .i64 1]) ?_ rfl ?_
    .rw[results_cell_tmp rfl]
     unfold zD7;go_simp
    .show DoQ w (do7 d k x v) _ _
     rw[Y.out];exact⟨_,rfl,World.ownsRow_nil _ _ _ _,(((a6.out.setCell (by show w.heap.size<=w.heap.size+1+1;omega) _).setCell (by show w.heap.size<=w.heap.size+1+1;omega) _).setCell (by show w.heap.size<=w.heap.size+1+1;omega) _).setCell (by show w.heap.size<=w.heap.size+1+1;omega) _⟩
   .have hd:doG d l k x v=doL d l k x v:=by unfold doG;rw[hg];rfl
    have K:do7 d k x v=doL d l k x v:=by rw[y.out,hg];rfl
    have hn:=ah5 d l k x v;rw[hd]at i4 i5 i6 Z;rw[hd];generalize doL d l k x v=P at *;obtain⟨c,D⟩:=P;clear hd;have Y:Hid (do7 d k x v=(c,D)):=K;have n1:¬ c=1:=hn.1;have ak:Hid (D.r=d.r):=hn.2;clear K hg y hn;go_wp2;refine bodyPost_ret (v:=.tuple #[.agg #[.string d.r,.slice aa D.ss.length ae,.string D.log,.int .i64 D.syn],.int .i64 c]) ?_ rfl ?_
    .rw[results_cell_tmp rfl]
     go_simp
    .show DoQ w (do7 d k x v) _ _
     rw[Y.out];refine⟨.slice aa D.ss.length ae,by rw[ak.out],?_,(((a6.out.setCell (by show w.heap.size<=w.heap.size+1+1;omega) _).setCell (by show w.heap.size<=w.heap.size+1+1;omega) _).setCell (by show w.heap.size<=w.heap.size+1+1;omega) _).setCell (by show w.heap.size<=w.heap.size+1+1;omega) _⟩;have hp:=Z.out.pages;exact (World.ownsRow.kept hp (ay2 _ _ _ _ _ _) (ic hp aj.out (by decide))).mono (by omega)
structure yk (w u:World) (pd:Nat) (d:Ds7) (vp:Value) (ty:TypeId) (pv:Value) (pb pl pf pn:Addr):Prop where
 disk:an u pd d.r vp d.log d.syn
 dk:Dk7 u w.heap.size vp d
 env:ql u ty pv pb pl pf pn
 es:Es7 u pb pl pf pn
 et:wy u
 bel:Below w.heap.size w u
theorem wy.below {u u':World}(h:wy u) (a:Below u.heap.size u u'):wy u':=(a.cell (p:=⟨4,0,none⟩) (ag h)).trans h
theorem yk.below {w u u':World} {b:Nat} {d:Ds7} {c:Value} {ty:TypeId} {pv:Value} {pb pl pf pn:Addr}(h:yk w u b d c ty pv pb pl pf pn) (a:Below u.heap.size u u'):yk w u' b d c ty pv pb pl pf pn :=
 ⟨h.disk.below a,h.dk.below a,h.env.below a,h.es.below a,h.et.below a,h.bel.trans (a.mono h.bel.size)⟩
theorem a09 {d X:Ds7} {keep:Int}(h:kb d keep=some X):∃ l,ch d=some l/\X=Am d keep:=by
 unfold kb at h
 cases ho:ch d with
 | none=>rw[ho]at h;cases h
 | some l =>
  rw[ho]at h;have a:(if 0<=keep then some (Am d keep) else none)=some X:=h;split at a
  .exact⟨l,rfl,(Option.some.inj a).symm⟩
  .cases a
structure b30 (d X:Ds7) (l:List Rw):Prop where
 was:ch d=some l
 good:∃ L,ch X=some L
 ok:Ok7 X
 size:X.log.size<=d.log.size
 front:d.log.extract 0 X.log.size=X.log
theorem a08 {d X:Ds7} {keep:Int}(e:Ok7 d) (h:kb d keep=some X):∃ l,b30 d X l:=by
 obtain⟨l,a,rfl⟩:=a09 h;have b:=(Uj (keep:=keep) (kz a).1).2;have c:(d.log.extract 0 (qh d keep)).size=qh d keep:=rz b;refine⟨l,a,Vo a,b49 e keep,?_,?_⟩
 .show (d.log.extract 0 (qh d keep)).size<=_
  rw[c];exact b
 .show d.log.extract 0 (d.log.extract 0 (qh d keep)).size=d.log.extract 0 (qh d keep)
  rw[c]
theorem b24 {d:Ds7} {l:List Rw}(h:ch d=some l):do7 d 3 ⟨#[]⟩ ⟨#[]⟩=(0,⟨d.r,d.ss,d.log,(d.log.size:Int)⟩):=by
 obtain⟨b,a⟩:=kz h;rw[Ce a b rfl];rfl
theorem Tq (w:World) (a:Option Addr) (n cap:Nat) (hn:1048576<n) (_:n<=9223372036854775807):Calls prog 4 #[.slice a n cap] w fun e w'=>e=.returned (.bool true)/\Below w.heap.size w w':=by
 have b:(1048576:Int)<(n:Int):=by omega
 go_enter func4,ntmps4;go_wp2;go_ret;exact⟨rfl,bX⟩
theorem Tr (w:World) (a:Option Addr) (n cap:Nat) (hn:n<=1048576) (h:Hg w a n){ty:TypeId} {pv:Value} {pb pl pf pn:Addr}(hE:ql w ty pv pb pl pf pn) (hS:Es7 w pb pl pf pn) (hT:wy w) :
  Calls prog 4 #[.slice a n cap] w fun e w'=>e=.returned (.bool true)/\Below w.heap.size w w':=by
 have DR:=Mu w a n cap hn h;have aj:Hid (∀ u,Below w.heap.size w u->ql u ty pv pb pl pf pn/\Es7 u pb pl pf pn/\wy u):=fun u f=>⟨hE.below f,hS.below f,hT.below f⟩
 have bj:¬ (1048576:Int)<(n:Int):=by omega
 clear h hE hS hT;go_enter func4,ntmps4;go_wp2_with fail;refine DR.mono ?_;rintro e w1 ⟨d,y,k,rfl,s1,aC,bh,bi,b1⟩;obtain⟨m,o,b6⟩:=eu s1;subst b6;obtain⟨D,aw⟩:∃ D,D=w1.heap.size:=⟨_,rfl⟩
 obtain⟨w2,al⟩:∃ w2,w2=w1.alloc (.cells #[.string d.r,.slice m d.ss.length o,.string d.log,.int .i64 d.syn] 25):=⟨_,rfl⟩
 have t:Below w1.heap.size w1 w2:=by rw[al];exact bY _
 have af:=b1.trans (t.mono b1.size);have s:Hid (yk w w2 D d (.slice m d.ss.length o) ty pv pb pl pf pn):=by
  refine⟨?_,⟨s1.below t,aC⟩,(aj.out w2 af).1,(aj.out w2 af).2.1,(aj.out w2 af).2.2,af⟩;rw[al,aw];exact an.new w1 _ _ _ _
 have aL:=hZ al.symm;have aI:=hZ aw.symm;have V:=U6 ze k (by omega) (by omega) s.out.dk s.out.env s.out.et;have S:Hid (∀ u,yk w u D d (.slice m d.ss.length o) ty pv pb pl pf pn->Calls prog 19 #[.agg #[.string d.r,.slice m d.ss.length o,.string d.log,.int .i64 d.syn],.int .i64 k] u fun e w'=>CrQ u (kb d k) e w'):=fun u f=>aw4 k (by omega) (by omega) f.dk
 have A:=hZ aC;obtain⟨F,M,N,O,P,Q⟩:=s.out.disk.facts;clear DR s1 aC b1 t af aw al aj;go_upto_region 4 with fail
 rw[aL.out,aI.out];clear aL aI
 cases p:kb d k with
 | none =>
  rw[p]at V S;have W:Calls prog 18 #[.agg #[.string d.r,.slice m d.ss.length o,.string d.log,.int .i64 d.syn],.int .i64 k] w2 fun e w'=>e=.returned (.tuple #[.agg #[.string ⟨#[]⟩,.slice none 0 0,.string ⟨#[]⟩,.int .i64 0],.bool false])/\Below w2.heap.size w2 w':=V
  clear V p A;go_wp2_with fail;refine W.mono ?_;rintro e g ⟨rfl,I⟩;obtain⟨b,G⟩:∃ b,b=g.heap.size:=⟨_,rfl⟩
  obtain⟨w4,x⟩:∃ w4,w4=g.alloc (.cells #[.string ⟨#[]⟩,.slice none 0 0,.string ⟨#[]⟩,.int .i64 0] 25):=⟨_,rfl⟩
  have U:Below g.heap.size g w4:=by rw[x];exact bY _
  have i:=hZ (s.out.below (I.trans (U.mono I.size)));have ac:Hid (an w4 b ⟨#[]⟩ (.slice none 0 0) ⟨#[]⟩ 0):=by show an _ _ _ _ _ _;rw[x,G];exact an.new g _ _ _ _
  have CS:=S.out w4 i.out;have Y:Calls prog 19 #[.agg #[.string d.r,.slice m d.ss.length o,.string d.log,.int .i64 d.syn],.int .i64 k] w4 fun e w'=>e=.returned (.tuple #[.agg #[.string ⟨#[]⟩,.slice none 0 0,.string ⟨#[]⟩,.int .i64 0],.bool false])/\Below w4.heap.size w4 w':=CS
  have aa:=hZ x.symm;have Z:=hZ G.symm;obtain⟨F,M,N,O,P,Q⟩:=i.out.disk.facts;clear W CS I U x G s S;go_upto_region 5 with fail
  rw[aa.out,Z.out];clear aa Z;go_wp2_with fail;refine Y.mono ?_;rintro e w5 ⟨rfl,J⟩;have j:Below w4.heap.size w4 (w5.alloc (.cells #[.string ⟨#[]⟩,.slice none 0 0,.string ⟨#[]⟩,.int .i64 0] 25)):=J.alloc J.size _;obtain⟨c,H⟩:∃ c,c=w5.alloc (.cells #[.string ⟨#[]⟩,.slice none 0 0,.string ⟨#[]⟩,.int .i64 0] 25):=⟨_,rfl⟩
  rw[<- H]at j;have ab:=hZ H.symm;have aX:=hZ (i.out.bel.trans (j.mono i.out.bel.size));obtain⟨bk,x0,x1,x2,x3,xf⟩:=(ac.out.below j).facts;clear Y J j H i ac;go_upto_region 6 with fail
  rw[ab.out];clear ab;go_wp2;go_ret;exact⟨rfl,aX.out⟩
 | some X =>
  rw[p]at V S;obtain⟨l,ag⟩:=a08 A.out p;have R:=hZ ag;have W:Calls prog 18 #[.agg #[.string d.r,.slice m d.ss.length o,.string d.log,.int .i64 d.syn],.int .i64 k] w2 fun e w'=>(∃ y,e=.returned (.tuple #[.agg #[.string X.r,y,.string X.log,.int .i64 X.syn],.bool true])/\ah w' w2.heap.size y X.ss)/\Below w2.heap.size w2 w':=V
  clear V p ag;go_wp2_with fail;refine W.mono ?_;rintro e g ⟨⟨vx,rfl,s3⟩,I⟩;obtain⟨B,C,ba⟩:=eu s3;subst ba;obtain⟨b,G⟩:∃ b,b=g.heap.size:=⟨_,rfl⟩
  obtain⟨w4,x⟩:∃ w4,w4=g.alloc (.cells #[.string X.r,.slice B X.ss.length C,.string X.log,.int .i64 X.syn] 25):=⟨_,rfl⟩
  have U:Below g.heap.size g w4:=by rw[x];exact bY _
  have i:=hZ (s.out.below (I.trans (U.mono I.size)));have ac:Hid (an w4 b X.r (.slice B X.ss.length C) X.log X.syn):=by show an _ _ _ _ _ _;rw[x,G];exact an.new g _ _ _ _
  have aF:Hid (Dk7 w4 w.heap.size (.slice B X.ss.length C) X):=⟨(ji s3 s.out.bel.size).below U,R.out.ok⟩;have CS:=S.out w4 i.out;have Y:Calls prog 19 #[.agg #[.string d.r,.slice m d.ss.length o,.string d.log,.int .i64 d.syn],.int .i64 k] w4 fun e w'=>(∃ y,e=.returned (.tuple #[.agg #[.string X.r,y,.string X.log,.int .i64 X.syn],.bool true])/\ah w' w4.heap.size y X.ss)/\Below w4.heap.size w4 w':=CS
  have aa:=hZ x.symm;have Z:=hZ G.symm;obtain⟨F,M,N,O,P,Q⟩:=i.out.disk.facts;clear W CS s3 I U x G s S;go_upto_region 5 with fail
  rw[aa.out,Z.out];clear aa Z;go_wp2_with fail;refine Y.mono ?_;rintro e w5 ⟨⟨vs,rfl,s5⟩,J⟩;obtain⟨aR,aT,b9⟩:=eu s5;subst b9;have j:Below w4.heap.size w4 (w5.alloc (.cells #[.string X.r,.slice aR X.ss.length aT,.string X.log,.int .i64 X.syn] 25)):=J.alloc J.size _;obtain⟨c,H⟩:∃ c,c=w5.alloc (.cells #[.string X.r,.slice aR X.ss.length aT,.string X.log,.int .i64 X.syn] 25):=⟨_,rfl⟩
  rw[<- H]at j;have ab:=hZ H.symm;have ak:=hZ (i.out.below j);have ad:=hZ (ac.out.below j);have aG:=hZ (aF.out.below j);clear Y s5 J j H i ac aF M N O P Q F;go_upto_region 6 with fail
  rw[ab.out];clear ab;have MK:=fun (u:World) (f:Below c.heap.size c u)=>(⟨(ad.out.below f).facts.2.1,(ad.out.below f).facts.2.2.1,(ad.out.below f).facts.2.2.2.1,(ad.out.below f).facts.2.2.2.2.1,(ak.out.below f).disk.facts.2.2.2.1,f⟩:u.cell? ⟨b,0,none⟩=some (.string X.r)/\u.cell? ⟨b,1,none⟩=some (.slice B X.ss.length C)/\u.cell? ⟨b,2,none⟩=some (.string X.log)/\u.cell? ⟨b,3,none⟩=some (.int .i64 X.syn)/\u.cell? ⟨D,2,none⟩=some (.string d.log)/\Below c.heap.size c u)
  have hS:=MK c bX;have aU:=MK c.drew (bX.drew);have K:=fun (u1 u2:World) (hb:Below u1.heap.size u1 u2) (f:u1.cell? ⟨b,0,none⟩=some (.string X.r)/\u1.cell? ⟨b,1,none⟩=some (.slice B X.ss.length C)/\u1.cell? ⟨b,2,none⟩=some (.string X.log)/\u1.cell? ⟨b,3,none⟩=some (.int .i64 X.syn)/\u1.cell? ⟨D,2,none⟩=some (.string d.log)/\Below c.heap.size c u1)=>MK u2 (f.2.2.2.2.2.trans (hb.mono f.2.2.2.2.2.size))
  have GD:=fun (u:World) (f:u.cell? ⟨b,0,none⟩=some (.string X.r)/\u.cell? ⟨b,1,none⟩=some (.slice B X.ss.length C)/\u.cell? ⟨b,2,none⟩=some (.string X.log)/\u.cell? ⟨b,3,none⟩=some (.int .i64 X.syn)/\u.cell? ⟨D,2,none⟩=some (.string d.log)/\Below c.heap.size c u)=>(by
   have q:=a56 ze (aG.out.below f.2.2.2.2.2) (ak.out.below f.2.2.2.2.2).env;obtain⟨L,hL⟩:=R.out.good;rw[hL]at q;exact q:Calls prog 10 #[.agg #[.string X.r,(.slice B X.ss.length C),.string X.log,.int .i64 X.syn]] u fun e w'=>e=.returned (.bool true)/\Below u.heap.size u w')
  have bd:X.log.size<=d.log.size:=R.out.size;have sl:∀ u:World,(Instr.slice 9 (.string d.log) none (some (.int .i64 (X.log.size:Int))) none).run prog u=.ok (.string X.log) u:=fun u=>by
   rw[run_slice_string_h (ht:=underlying9) (h0:=by omega) (h2:=by omega),Int.toNat_natCast,R.out.front]
  clear MK;go_upto_region 10 with fail
  go_cut [68] from 46 to 68 (fun v68 wx=>v68=.bool false/\Below c.heap.size c wx)
  case first =>
   have b4:decide (d.log.size<X.log.size)=false:=decide_eq_false (by omega);have b2:(d.log.size<X.log.size)=False:=eq_false (by omega);go_region_held (fun u=>u.cell? ⟨b,0,none⟩=some (.string X.r)/\u.cell? ⟨b,1,none⟩=some (.slice B X.ss.length C)/\u.cell? ⟨b,2,none⟩=some (.string X.log)/\u.cell? ⟨b,3,none⟩=some (.int .i64 X.syn)/\u.cell? ⟨D,2,none⟩=some (.string d.log)/\Below c.heap.size c u)
    (first|exact aU|exact K _ _ (by assumption) (by assumption))
    (first|(go_at_call 10;refine (GD _ (by assumption)).mono ?_;rintro e w' ⟨rfl,bg⟩))
   all_goals
    have z:Below c.heap.size c w':=(show w'.cell? ⟨b,0,none⟩=_/\_/\_/\_/\_/\Below c.heap.size c w' by assumption).2.2.2.2.2;go_simp;go_wp2_with fail;go_meet
    case rel=>exact⟨rfl,z⟩
  case rest =>
   obtain⟨aZ,b7⟩:=hcut;subst aZ;have E:=hZ (ak.out.below b7);have p:=R.out.was;have a3:Hid (ch d=some l):=p;have b0:=(qi A.out (kz p).2).len;have ID:=ah2 ze 3 ⟨#[]⟩ ⟨#[]⟩ (Nat.zero_le _) (Nat.zero_le _) E.out.dk E.out.env E.out.es;rw[b24 p]at ID;have aO:Calls prog 7 #[.agg #[.string d.r,.slice m d.ss.length o,.string d.log,.int .i64 d.syn],.agg #[.int .i64 3,.string ⟨#[]⟩,.string ⟨#[]⟩]] wc fun e w'=>∃ vy,e=.returned (.tuple #[.agg #[.string d.r,vy,.string d.log,.int .i64 (d.log.size:Int)],.int .i64 0])/\ah w' wc.heap.size vy d.ss/\Below wc.heap.size wc w':=ID
   obtain⟨F,M,N,O,P,Q⟩:=E.out.disk.facts;clear hS aU K GD sl bd b7 ak ad aG R ID p;go_wp2_with fail;refine aO.mono ?_;rintro e w8 ⟨vy,rfl,s8,b8⟩;obtain⟨ay,cy,bb⟩:=eu s8;subst bb;obtain⟨py,aA⟩:∃ py,py=w8.heap.size:=⟨_,rfl⟩
   obtain⟨w9,am⟩:∃ w9,w9=w8.alloc (.cells #[.string d.r,.slice ay d.ss.length cy,.string d.log,.int .i64 (d.log.size:Int)] 25):=⟨_,rfl⟩
   have av:Below w8.heap.size w8 w9:=by rw[am];exact bY _
   have a7:=hZ (E.out.below (b8.trans (av.mono b8.size)));have aN:Hid (an w9 py d.r (.slice ay d.ss.length cy) d.log (d.log.size:Int)):=by show an _ _ _ _ _ _;rw[am,aA];exact an.new w8 _ _ _ _
   have a4:Ok7 ⟨d.r,d.ss,d.log,(d.log.size:Int)⟩:=⟨A.out.rules,A.out.pages,A.out.page,A.out.side,A.out.log⟩;have aY:=hZ a4;have aH:Hid (Dk7 w9 w.heap.size (.slice ay d.ss.length cy) ⟨d.r,d.ss,d.log,(d.log.size:Int)⟩):=⟨(ji s8 E.out.bel.size).below av,a4⟩;have CR:=U6 ze 0 (by omega) (by omega) aH.out a7.out.env a7.out.et;rw[(J8 a3.out).1]at CR;have aE:Calls prog 18 #[.agg #[.string d.r,.slice ay d.ss.length cy,.string d.log,.int .i64 (d.log.size:Int)],.int .i64 0] w9 fun e w'=>(∃ y,e=.returned (.tuple #[.agg #[.string d.r,y,.string d.log,.int .i64 (d.log.size:Int)],.bool true])/\ah w' w9.heap.size y d.ss)/\Below w9.heap.size w9 w':=CR
   have aM:=hZ am.symm;have aJ:=hZ aA.symm;obtain⟨be,y0,y1,y2,y3,yf⟩:=aN.out.facts;clear aO CR s8 b8 av am aA a4 E aN aH M N O P Q F;go_upto_region 13 with fail
   rw[aM.out,aJ.out];clear aM aJ;go_wp2_with fail;refine aE.mono ?_;rintro e ai ⟨⟨vz,rfl,aD⟩,ar⟩;obtain⟨az,cz,bc⟩:=eu aD;subst bc;obtain⟨pz,aB⟩:∃ pz,pz=ai.heap.size:=⟨_,rfl⟩
   obtain⟨w11,a1⟩:∃ w11,w11=ai.alloc (.cells #[.string d.r,.slice az d.ss.length cz,.string d.log,.int .i64 (d.log.size:Int)] 25):=⟨_,rfl⟩
   have a0:Below ai.heap.size ai w11:=by rw[a1];exact bY _
   have T:=hZ (a7.out.below (ar.trans (a0.mono ar.size)));have ae:Hid (an w11 pz d.r (.slice az d.ss.length cz) d.log (d.log.size:Int)):=by show an _ _ _ _ _ _;rw[a1,aB];exact an.new ai _ _ _ _
   have a6:Hid (Dk7 w11 w.heap.size (.slice az d.ss.length cz) ⟨d.r,d.ss,d.log,(d.log.size:Int)⟩):=⟨(ji aD a7.out.bel.size).below a0,aY.out⟩;have OS:=Xt T.out.dk;rw[(kz a3.out).2]at OS;have aQ:Calls prog 11 #[.agg #[.string d.r,(.slice m d.ss.length o),.string d.log,.int .i64 d.syn]] w11 fun e w'=>∃ v,e=.returned (.tuple #[v,.bool true])/\Rws w' w11.heap.size v l/\Below w11.heap.size w11 w':=OS
   have a9:=hZ a1.symm;have aK:=hZ aB.symm;obtain⟨F,M,N,O,P,Q⟩:=T.out.disk.facts;clear aE OS aD ar a0 a1 aB a7 y0 y1 y2 y3 yf be;go_upto_region 14 with fail
   rw[a9.out,aK.out];clear a9 aK;go_wp2_with fail;refine aQ.mono ?_;rintro e ao ⟨bl,rfl,aV,t⟩;have a8:=hZ aV;have a2:=hZ (T.out.bel.trans (t.mono T.out.bel.size));have OI:=Xs ze (a6.out.below t) (T.out.below t).env;rw[(kz (J8 a3.out).2).2]at OI;have aP:Calls prog 9 #[.agg #[.string d.r,(.slice az d.ss.length cz),.string d.log,.int .i64 (d.log.size:Int)]] ao fun e w'=>∃ v,e=.returned (.tuple #[v,.bool true])/\Rws w' ao.heap.size v l/\Below ao.heap.size ao w':=OI
   obtain⟨bf,z0,z1,z2,z3,zf⟩:=(ae.out.below t).facts;clear aQ OI aV t T ae a6 M N O P Q F;go_wp2_with fail;refine aP.mono ?_;rintro e bn ⟨bm,rfl,aW,au⟩;have SM:=ac0 (by omega) (a8.out.below au) aW;have a5:=hZ (a2.out.trans (au.mono a2.out.size));clear aP aW au a8 a2 z0 z1 z2 z3 zf bf;go_wp2_with fail;refine SM.mono ?_;rintro e bo ⟨rfl,aS⟩;have aq:=hZ (a5.out.trans (aS.mono a5.out.size));clear SM aS;go_wp2;go_ret;exact⟨rfl,aq.out⟩
end Go.Proofs.YtjbmgghehdemdaaGreatDoor
