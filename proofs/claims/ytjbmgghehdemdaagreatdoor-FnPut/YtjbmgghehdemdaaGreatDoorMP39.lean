/- WPut7 -/
import Derived.Test.YtjbmgghehdemdaaGreatDoorMP38
import Derived.Test.YtjbmgghehdemdaaGreatDoorMP35
namespace Go.Proofs.YtjbmgghehdemdaaGreatDoor
set_option maxRecDepth 100000
set_option maxHeartbeats 16000000
open _root_.Go.Proofs.Tryz
open Go.RowKit
structure Hp7 (w u:World) (pd px:Nat) (d:Ds7) (vp:Value) (k:Int) (x v:ByteArray) (D:Ds7) (vx:Value) (ty:TypeId) (pv:Value) (pb pl pf pn:Addr):Prop where
 disk:bd u pd d.r vp d.log d.syn
 what:dw u (pd+1) k x v
 done:bd u px D.r vx D.log D.syn
 dk:Dk7 u w.heap.size vp d
 dx:Dk7 u w.heap.size vx D
 env:qd u ty pv pb pl pf pn
 es:Es7 u pb pl pf pn
 bel:Below w.heap.size w u
theorem Hp7.below {w u u':World} {b c:Nat} {d:Ds7} {e:Value} {k:Int} {x v:ByteArray} {D:Ds7} {f:Value} {ty:TypeId} {pv:Value} {pb pl pf pn:Addr}(h:Hp7 w u b c d e k x v D f ty pv pb pl pf pn) (a:Below u.heap.size u u'):Hp7 w u' b c d e k x v D f ty pv pb pl pf pn :=
 ⟨h.disk.below a,h.what.below a,h.done.below a,h.dk.below a,h.dx.below a,h.env.below a,h.es.below a,h.bel.trans (a.mono h.bel.size)⟩
theorem b05 {l:List Rw}(h:jr l){k:Nat} {x y:Rw}(c:l[k]? = some x) (a:l[k+1]? = some y):ltK x.key y.key=true:=by
 have b:k+1<l.length:=(List.getElem?_eq_some_iff.1 a).1;have:=h k (k+1) (by omega) b;unfold cg at this;rw[c,a]at this;exact this
theorem ao1 (w:World) (a:Option Addr) (n cap:Nat) (hn:1048576<n) (_:n<=9223372036854775807):Calls prog 3 #[.slice a n cap] w fun e w'=>e=.returned (.bool true)/\Below w.heap.size w w':=by
 have b:(1048576:Int)<(n:Int):=by omega
 go_enter func3,ntmps3;go_wp2;go_ret;exact⟨rfl,bX⟩
theorem ao2 (w:World) (a:Option Addr) (n cap:Nat) (hn:n<=1048576) (h:H0 w a n){ty:TypeId} {pv:Value} {pb pl pf pn:Addr}(hE:qd w ty pv pb pl pf pn) (hS:Es7 w pb pl pf pn) :
  Calls prog 3 #[.slice a n cap] w fun e w'=>e=.returned (.bool true)/\Below w.heap.size w w':=by
 have DR:=Vn w a n cap hn h;have ar:Hid (∀ u,Below w.heap.size w u->qd u ty pv pb pl pf pn/\Es7 u pb pl pf pn):=fun u hu=>⟨hE.below hu,hS.below hu⟩
 have c3:¬ (1048576:Int)<(n:Int):=by omega
 clear h hE hS;go_enter func3,ntmps3;go_wp2_with fail;refine DR.mono ?_;rintro e Y ⟨d,vp,k,x,v,rfl,s1,aG,hx,hv,b1⟩;obtain⟨f,g,bT⟩:=gj s1;subst bT;obtain⟨A,aD⟩:∃ A,A=Y.heap.size:=⟨_,rfl⟩
 obtain⟨w2,an⟩:∃ w2,w2=(Y.alloc (.cells #[.string d.r,.slice f d.ss.length g,.string d.log,.int .i64 d.syn] 25)).alloc (.cells #[.int .i64 k,.string x,.string v] 27):=⟨_,rfl⟩
 have Q:Below Y.heap.size Y w2:=by rw[an];exact (bY _).alloc (by simp) _
 have aK:Hid (bd w2 A d.r (.slice f d.ss.length g) d.log d.syn):=by
  show bd _ _ _ _ _ _
  rw[an,aD];exact (bd.new Y _ _ _ _).below (bY _)
 have aQ:Hid (dw w2 (A+1) k x v):=by
  show dw _ _ _ _ _
  have q:=dw.new (Y.alloc (.cells #[.string d.r,.slice f d.ss.length g,.string d.log,.int .i64 d.syn] 25)) k x v;rw[World.size_alloc]at q;rw[an,aD];exact q
 have a9:=hZ (b1.trans (Q.mono b1.size));have aP:Hid (Dk7 w2 w.heap.size (.slice f d.ss.length g) d):=⟨s1.below Q,aG⟩;have bn:=hZ an.symm;have bg:=hZ aD.symm;have aU:=ar.out w2 a9.out;have ID:=ag1 Cn k x v (by omega) (by omega) aP.out aU.1 aU.2;obtain⟨P,K⟩:∃ P,P=do7 d k x v:=⟨_,rfl⟩
 rw[<- K]at ID;have F:Hid (P=do7 d k x v):=K;have bf:Hid (Ok7 P.2):=by show Ok7 _;rw[K];exact a01 aG k x v
 have HF:Hid (P.1≠1->∃ l L,ad7 d k x v l L):=fun hne=>a90 aG (by rw[<- K];exact hne)
 have aM:Hid (P.1=1->P.2=zD7):=fun he=>by rw[K]at he ⊢;exact av9 he
 have bm:Hid (∀ u,Dk7 u w.heap.size (.slice f d.ss.length g) d->Calls prog 8 #[.agg #[.string d.r,.slice f d.ss.length g,.string d.log,.int .i64 d.syn],.agg #[.int .i64 k,.string x,.string v]] u fun e w'=>Aq u P e w'):=fun u hu=>by
  rw[K];exact U7 k x v (by omega) (by omega) hu
 obtain⟨c,D⟩:=P;have bq:Calls prog 7 #[.agg #[.string d.r,.slice f d.ss.length g,.string d.log,.int .i64 d.syn],.agg #[.int .i64 k,.string x,.string v]] w2 fun e w'=>∃ vx,e=.returned (.tuple #[.agg #[.string D.r,vx,.string D.log,.int .i64 D.syn],.int .i64 c])/\aj w' w2.heap.size vx D.ss/\Below w2.heap.size w2 w':=ID
 obtain⟨aC,d0,d1,d2,d3,df⟩:=aK.out.facts;obtain⟨S,V,W,X⟩:=aQ.out.facts;clear DR s1 aG b1 Q aD an aU ID K;go_upto_region 4 with fail
 rw[bn.out,bg.out];clear bn bg;go_wp2_with fail;refine bq.mono ?_;rintro e w3 ⟨vx,rfl,s3,b3⟩;obtain⟨p,s,bV⟩:=gj s3;subst bV;obtain⟨C,aY⟩:∃ C,C=w3.heap.size:=⟨_,rfl⟩
 obtain⟨w4,aE⟩:∃ w4,w4=w3.alloc (.cells #[.string D.r,.slice p D.ss.length s,.string D.log,.int .i64 D.syn] 25):=⟨_,rfl⟩
 have R:Below w3.heap.size w3 w4:=by rw[aE];exact bY _
 have ak:=b3.trans (R.mono b3.size);have az:=a9.out.trans (ak.mono a9.out.size);have af:Hid (Hp7 w w4 A C d (.slice f d.ss.length g) k x v D (.slice p D.ss.length s) ty pv pb pl pf pn):=by
  refine⟨aK.out.below ak,aQ.out.below ak,?_,aP.out.below ak,⟨(mg s3 a9.out.size).below R,bf.out⟩,(ar.out w4 az).1,(ar.out w4 az).2,az⟩;rw[aE,aY];exact bd.new w3 _ _ _ _
 have bo:=hZ aE.symm;have bh:=hZ aY.symm;have SD:=bm.out w4 af.out.dk;have bv:Calls prog 8 #[.agg #[.string d.r,.slice f d.ss.length g,.string d.log,.int .i64 d.syn],.agg #[.int .i64 k,.string x,.string v]] w4 fun e w'=>∃ vs,e=.returned (.tuple #[.agg #[.string D.r,vs,.string D.log,.int .i64 D.syn],.int .i64 c])/\aj w' w4.heap.size vs D.ss/\Below w4.heap.size w4 w':=SD
 obtain⟨aC,d0,d1,d2,d3,df⟩:=af.out.disk.facts;obtain⟨S,V,W,X⟩:=af.out.what.facts;clear bq s3 b3 R ak az aE aY SD aK aQ a9 aP bm bf ar;go_upto_region 5 with fail
 rw[bo.out,bh.out];clear bo bh;go_wp2_with fail;refine bv.mono ?_;rintro e w5 ⟨vs,rfl,s5,b5⟩;obtain⟨bG,bH,bU⟩:=gj s5;subst bU;obtain⟨w6,aZ⟩:∃ w6,w6=w5.alloc (.cells #[.string D.r,.slice bG D.ss.length bH,.string D.log,.int .i64 D.syn] 25):=⟨_,rfl⟩
 have bw:Below w5.heap.size w5 w6:=by rw[aZ];exact bY _
 have E:=hZ (af.out.below (b5.trans (bw.mono b5.size)));have bp:=hZ aZ.symm;obtain⟨aF,x0,x1,Z,x3,xf⟩:=E.out.done.facts;clear bv s5 b5 bw aZ af d0 d1 d2 d3 df aC V W X S;go_upto_region 6 with fail
 rw[bp.out];clear bp;by_cases aB:c=1
 .have hz:D=zD7:=aM.out aB
  subst aB;have aq:Hid (Below w.heap.size w w6):=E.out.bel;have c5:w6.cell? ⟨C,2,none⟩=some (.string ⟨#[]⟩):=by rw[Z,hz];rfl
  clear HF aM F E x0 x1 Z x3 xf hz;go_wp2;go_ret;exact⟨rfl,aq.out⟩
 .obtain⟨l,L,a4⟩:=HF.out aB
  have a7:dz D=some L:=by have q:=a4.now;rw[<- F.out]at q;exact q
  have aV:=a4.rows;have bJ:=aV.len;have J:=hZ a4;have aS:Hid (ay (ab d.r).es (ab d.r).lv=true):=qn a4.was;have OR:=Xr Cn E.out.dx E.out.env;rw[(Cm a7).2]at OR;have bt:Calls prog 9 #[.agg #[.string D.r,(.slice p D.ss.length s),.string D.log,.int .i64 D.syn]] w6 fun e w'=>∃ v,e=.returned (.tuple #[v,.bool true])/\Rws w' w6.heap.size v L/\Below w6.heap.size w6 w':=OR
  have bc:Hid (∀ u,Hp7 w u A C d (.slice f d.ss.length g) k x v D (.slice p D.ss.length s) ty pv pb pl pf pn->Calls prog 10 #[.agg #[.string D.r,(.slice p D.ss.length s),.string D.log,.int .i64 D.syn]] u fun e w'=>e=.returned (.bool true)/\Below u.heap.size u w'):=fun u hu=>by
   have q:=a40 Cn hu.dx hu.env;rw[a7]at q;exact q
  have a3:Hid (jr L):=aV.rise;clear HF aM OR a7 a4 aV;go_wp2_with fail;refine bt.mono ?_;rintro e w7 ⟨v7,rfl,r7,b7⟩;obtain⟨aL,cL,bS⟩:=cz r7;subst bS;have au:=hZ (E.out.below b7);have bk:Hid (Rws w7 w.heap.size (.slice aL L.length cL) L):=eu r7 E.out.bel.size;have GD:=bc.out w7 au.out;obtain⟨aF,x0,x1,Z,x3,xf⟩:=au.out.done.facts;clear bt r7 b7 E bc;go_wp2_with fail;refine GD.mono ?_;rintro e w8 ⟨rfl,b8⟩;have bi:=hZ (au.out.below b8);have bl:=hZ (bk.out.below b8);clear GD b8 au bk x0 x1 Z x3 xf aF;go_wp2_with fail
  go_loopw [65] (fun i wr=>∃ j:Nat,j<=L.length/\i=.int .i64 (j:Int)/\Rws wr w.heap.size (.slice aL L.length cL) L/\Hp7 w wr A C d (.slice f d.ss.length g) k x v D (.slice p D.ss.length s) ty pv pb pl pf pn) (fun i _=>L.length-(intOf i).toNat)
  case atStart=>exact⟨0,Nat.zero_le _,rfl,bl.out,bi.out⟩
  case round =>
   obtain⟨j,hj,rfl,U,H⟩:=hrel;by_cases bM:j<L.length
   .have bL:(j:Int)<(L.length:Int):=by omega
    obtain⟨x_,T⟩:∃ y,L[j]? = some y:=by exact⟨_,List.getElem?_eq_getElem bM⟩
    have aw:Hid (∀ m,Rws (wr.drewN m) w.heap.size (.slice aL L.length cL) L/\Hp7 w (wr.drewN m) A C d (.slice f d.ss.length g) k x v D (.slice p D.ss.length s) ty pv pb pl pf pn):=fun m=>⟨U.below (gm bX m),H.below (gm bX m)⟩
    rcases gu U with h0|⟨b,o,rfl,aA⟩
    .rw[h0]at T;simp at T
    obtain⟨a0,a1,a2⟩:=aA j x_ T;have bZ:=ag a0
    cases j with
    | zero =>
     simp only[Nat.zero_mul,Nat.add_zero]at a0 a1 a2;clear H U T aA a3;go_wp2;go_quiet (fail)
     go_wp2;exact⟨⟨1,by omega,by go_num,(aw.out _).1,(aw.out _).2⟩,by simp[intOf];omega⟩
    | succ j =>
     obtain⟨y_,b2⟩:∃ y,L[j]? = some y:=by exact⟨_,List.getElem?_eq_getElem (by omega)⟩
     obtain⟨p0,_,_⟩:=aA j y_ b2;have c0:(((j+1:Nat):Int)-1).toNat=j:=by omega
     have c1:((j+1:Nat):Int)-1=(j:Int):=by omega
     have c2:(j:Int)<(L.length:Int):=by omega
     have bR:=b05 a3.out b2 T;unfold ltK at bR;clear H U T b2 aA a3;go_wp2;go_quiet (fail)
     go_wp2;exact⟨⟨j+1+1,by omega,by go_num,(aw.out _).1,(aw.out _).2⟩,by simp[intOf];omega⟩
   .have bL:¬ (j:Int)<(L.length:Int):=by omega
    obtain⟨I,rfl⟩:∃ I,I=wr:=⟨_,rfl⟩
    have av:=hZ H;have aR:=hZ U;have aI:Hid (Below w.heap.size w I):=H.bel;obtain⟨S,V,W,X⟩:=H.what.facts;obtain⟨aC,d0,d1,d2,d3,df⟩:=H.disk.facts;clear H U a3 bi bl;by_cases am:c=0/\(k=1\/k=2)
    .obtain⟨aX,al⟩:=am
     subst aX;have h1:(do7 d k x v).1=0:=by rw[<- F.out]
     have b0:=J.out.short h1 al;have DT:=Ky x I (by omega);obtain⟨q1,q2,q3,q4,q5⟩:=b66 (x:=x) (by omega);have bF:Hid ((Af (nD (Dec.decT x.size x).1)).size<=60->bj (ab d.r) (Af (nD (Dec.decT x.size x).1))=bj (ab d.r) x):=fun hs=>ay7 aS.out (by omega) rfl (by omega)
     have HG:Hid (∀ tt u,Hp7 w u A C d (.slice f d.ss.length g) k x v D (.slice p D.ss.length s) ty pv pb pl pf pn->tt.size<=60->bj (ab d.r) tt=bj (ab d.r) x->Calls prog 16 #[.agg #[.string D.r,(.slice p D.ss.length s),.string D.log,.int .i64 D.syn],.string tt] u fun e w'=>∃ gr gc,e=.returned (.tuple #[rv7 gr,.int .i64 gc])/\(k=1->gc=0/\gr.text=x/\gr.val=v)/\(k=2->gc=4)/\Below u.heap.size u w'):=fun tt u hu ht hkt=>by
      have q:=ai7 Cn tt (by omega) hu.dx hu.env hu.es;refine q.mono ?_;rintro e w' ⟨rfl,hb⟩;refine⟨_,_,rfl,fun h=>?_,fun h=>?_,hb⟩
      .have z:=J.out.put h1 h tt ht hkt
       rw[<- F.out]at z;have z':wt D tt=(0,⟨bj (ab d.r) x,x,v⟩):=z;rw[z'];exact⟨rfl,rfl,rfl⟩
      .have z:=J.out.drop h1 h tt ht hkt
       rw[<- F.out]at z;have z':wt D tt=(4,zR7):=z;rw[z']
     have be:Hid (∀ (u:World) (B:Nat) (M:Value),aa u B M (Dec.decT x.size x).1->Calls prog 14 #[M] u fun e w'=>∃ v',e=.returned (.tuple #[v',.bool true])/\aa w' u.heap.size v' (nD (Dec.decT x.size x).1)/\Below u.heap.size u w'):=fun u B M hI=>by
      have q:=ab8 (by omega) hI;rw[q1,q2]at q;exact q
     have ac:Hid (∀ (u:World) (B:Nat) (M:Value),aa u B M (nD (Dec.decT x.size x).1)->Calls prog 15 #[M] u fun e w'=>e=.returned (.tuple #[.string (Af (nD (Dec.decT x.size x).1)),.bool true])/\Below u.heap.size u w'):=fun u B M hI=>by
      have q:=Tl (by omega) hI;rw[q3]at q;exact q
     clear q1 q2 q3 q4 q5 h1 J F aS aB d0 d1 d2 d3 df aC;rcases al with rfl|rfl;all_goals
      go_wp2_with fail;refine DT.mono ?_;rintro e b4 ⟨bE,rfl,bB,O⟩;have bs:=be.out b4 _ bE bB;have ad:Hid (Hp7 w b4 A C d (.slice f d.ss.length g) _ x v D (.slice p D.ss.length s) ty pv pb pl pf pn):=av.out.below O;clear DT be bB O av aR aI V W X S;go_wp2_with fail;refine bs.mono ?_;rintro e b6 ⟨bW,rfl,bC,ai⟩;have ba:=ac.out b6 _ bW bC;have ae:Hid (Hp7 w b6 A C d (.slice f d.ss.length g) _ x v D (.slice p D.ss.length s) ty pv pb pl pf pn):=ad.out.below ai;clear bs ac bC ai ad;go_wp2_with fail;refine ba.mono ?_;rintro e b9 ⟨rfl,Q⟩;have N:Hid (Hp7 w b9 A C d (.slice f d.ss.length g) _ x v D (.slice p D.ss.length s) ty pv pb pl pf pn):=ae.out.below Q;obtain⟨S,V,W,X⟩:=N.out.what.facts;clear ba Q ae;generalize Af (nD (Dec.decT x.size x).1)=t at *;by_cases bA:t.size<=60
      case' pos =>
       have bI:¬ (60:Int)<(t.size:Int):=by omega
       have G:=HG.out t b9 N.out bA (bF.out bA)
      case' neg =>
       have bI:(60:Int)<(t.size:Int):=by omega
       have G:=HG.out x b9 N.out b0 rfl
      all_goals
       obtain⟨aF,x0,x1,Z,x3,xf⟩:=N.out.done.facts;clear HG;go_wp2_with fail;refine G.mono ?_;rintro e ao ⟨gr,gc,rfl,bx,bz,aT⟩;obtain⟨gk,gt,gv⟩:=gr;have aN:Hid _:=bx;have aO:Hid _:=bz;obtain⟨w14,a5⟩:∃ w14,w14=ao.alloc (.cells #[.string gk,.string gt,.string gv] 37):=⟨_,rfl⟩
       obtain⟨br,aW⟩:∃ br,br=ao.heap.size:=⟨_,rfl⟩
       have R:Below ao.heap.size ao w14:=by rw[a5];exact bY _
       have aJ:Hid (ep w14 br ⟨gk,gt,gv⟩):=by show ep _ _ _;rw[a5,aW];exact n8 ao ⟨gk,gt,gv⟩
       have a6:Hid (Hp7 w w14 A C d (.slice f d.ss.length g) _ x v D (.slice p D.ss.length s) ty pv pb pl pf pn):=N.out.below (aT.trans (R.mono aT.size));have ah:=hZ a5.symm;have bb:=hZ aW.symm;obtain⟨r0,r1,r2⟩:=aJ.out.cells;have c4:=aJ.out.lt;obtain⟨S,V,W,X⟩:=a6.out.what.facts;have aq:Hid (Below w.heap.size w w14):=a6.out.bel;unfold rv7;clear bx bz G aT R a5 aW N a6 aJ x0 x1 Z x3 xf aF;go_upto_region 28 with fail
       rw[ah.out,bb.out];clear ah bb;first
        | (
          obtain⟨rfl,rfl,rfl⟩:=aN.out trivial;clear aN aO;go_wp2;go_ret;exact⟨rfl,aq.out⟩)
        | (
          obtain rfl:=aO.out trivial;clear aN aO;go_wp2;go_ret;exact⟨rfl,aq.out⟩)
    .have bK:L=l:=J.out.same (by rw[<- F.out];exact am)
     subst bK;have OS:=Xs av.out.dk;rw[J.out.was]at OS;have bu:Calls prog 11 #[.agg #[.string d.r,(.slice f d.ss.length g),.string d.log,.int .i64 d.syn]] I fun e w'=>∃ v,e=.returned (.tuple #[v,.bool true])/\Rws w' I.heap.size v L/\Below I.heap.size I w':=OS
     clear OS J F av aS;by_cases aX:c=0
     case' pos =>
      subst aX;have bN:¬ k=1:=fun e=>am ⟨rfl,.inl e⟩
      have bP:¬ k=2:=fun e=>am ⟨rfl,.inr e⟩
      have bO:(k != 1)=true:=by simpa using bN
      have bQ:(k != 2)=true:=by simpa using bP
     all_goals
      clear am;go_wp2_with fail;refine bu.mono ?_;rintro e b4 ⟨bE,rfl,bD,O⟩;have SM:=ab1 (by omega) (aR.out.below O) bD;have a8:=hZ (aI.out.trans (O.mono aI.out.size));clear bu O bD aR;go_wp2_with fail;refine SM.mono ?_;rintro e b6 ⟨rfl,ai⟩;have aH:=hZ (a8.out.trans (ai.mono a8.out.size));clear SM ai;go_wp2;go_ret;exact⟨rfl,aH.out⟩
end Go.Proofs.YtjbmgghehdemdaaGreatDoor
