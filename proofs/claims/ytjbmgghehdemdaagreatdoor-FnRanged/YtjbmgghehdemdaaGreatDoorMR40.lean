/- WRanged -/
import Derived.Test.YtjbmgghehdemdaaGreatDoorMR36
import Derived.Test.YtjbmgghehdemdaaGreatDoorMR38
import Derived.Test.YtjbmgghehdemdaaGreatDoorMR39
namespace Go.Proofs.YtjbmgghehdemdaaGreatDoor
set_option maxRecDepth 100000
set_option maxHeartbeats 16000000
open _root_.Go.Proofs.Tryz
open Go.RowKit
theorem ac8 {a b:ByteArray}(h:a.toList=b.toList):a=b:=by
 rw[ByteArray.toList_eq,ByteArray.toList_eq]at h;rcases a with ⟨⟨a⟩⟩;rcases b with ⟨⟨b⟩⟩;simpa using h
theorem Sl {R:RA}(h:ay R.es R.lv=true){x y:ByteArray}(a:x.size<=200) (b:y.size<=200):U4 R.es R.sh R.lv x y=mp (bh R x) (bh R y):=by
 unfold U4;rw[gd h a,gd h b];rfl
theorem Sk {a b:ByteArray}(h:ltK a b=true):mp a b=-1:=by
 unfold mp;rw[if_pos (show ltS a b=true from h)]
theorem Sj {a b:ByteArray}(h:ltK a b=false):0<=mp a b/\mp a b<=1:=by
 unfold mp;rw[if_neg (show ¬ ltS a b=true from fun c=>by rw[show ltS a b=false from h]at c;cases c)];split <;> omega
structure Hq7 (w u:World) (pd br:Nat) (d:Ds7) (vp ve vL vA:Value) (L l:List Rw) (ty:TypeId) (pv:Value) (pb pl pf pn:Addr):Prop where
 disk:ba u pd d.r vp d.log d.syn
 rul:jf u br ve (aa d.r).sh (aa d.r).lv
 ents:ac u w.heap.size ve (aa d.r).es
 rowsL:Rws u w.heap.size vL L
 rowsA:Rws u w.heap.size vA l
 dk:Dk7 u w.heap.size vp d
 env:qt u ty pv pb pl pf pn
 bel:Below w.heap.size w u
theorem Hq7.below {w u u':World} {c b:Nat} {d:Ds7} {i g f e:Value} {L l:List Rw} {ty:TypeId} {pv:Value} {pb pl pf pn:Addr}(h:Hq7 w u c b d i g f e L l ty pv pb pl pf pn) (a:Below u.heap.size u u'):Hq7 w u' c b d i g f e L l ty pv pb pl pf pn :=
 ⟨h.disk.below a,h.rul.below a,h.ents.below a,h.rowsL.below a,h.rowsA.below a,h.dk.below a,h.env.below a,h.bel.trans (a.mono h.bel.size)⟩
theorem F6 {d:Ds7} {a hi:ByteArray} {L:List Rw}(h:dw d a hi=some L):∃ l,cm d=some l/\a.size<=60/\hi.size<=60/\L=l.filter (inK (bh (aa d.r) a) (bh (aa d.r) hi)):=by
 unfold dw at h
 cases ho:cm d with
 | none=>rw[ho]at h;cases h
 | some l =>
  rw[ho]at h;have b:(if a.size<=60/\hi.size<=60 then some (l.filter (inK (bh (aa d.r) a) (bh (aa d.r) hi))) else none)=some L:=h;split at b
  .rename_i hc
   cases b
   exact⟨l,rfl,hc.1,hc.2,rfl⟩
  .cases b
def qw (L:List Rw) (x:Rw) (j:Nat):Bool:=(L.take j).any (fun y=>decide (y.key=x.key/\y.text=x.text/\y.val=x.val))
theorem a36 {x y:Rw}(h:y.key=x.key/\y.text=x.text/\y.val=x.val):y=x:=by
 cases x;cases y
 obtain⟨a,b,c⟩:=h;simp only at a b c;subst a;subst b;subst c;rfl
theorem Xw {L:List Rw} {x y:Rw} {j:Nat}(h:L[j]? = some y):qw L x (j+1)=(qw L x j || decide (y.key=x.key/\y.text=x.text/\y.val=x.val)):=by
 unfold qw;rw[List.take_add_one,h];simp
theorem a67 {l:List Rw} {p:Rw->Bool} {x:Rw}(a:x ∈ l):qw (l.filter p) x (l.filter p).length=p x:=by
 unfold qw;rw[List.take_length]
 cases hp:p x
 .rw[List.any_eq_false]
  intro y b;have:=(List.mem_filter.1 b).2;rw[decide_eq_true_eq];intro c;rw[a36 c,hp]at this
  cases this
 .rw[List.any_eq_true]
  exact⟨x,List.mem_filter.2 ⟨a,hp⟩,by simp⟩
theorem Rk (w:World) (a:Option Addr) (n cap:Nat) (hn:1048576<n) (_:n<=9223372036854775807):Calls prog 5 #[.slice a n cap] w fun e w'=>e=.returned (.bool true)/\Below w.heap.size w w':=by
 have b:(1048576:Int)<(n:Int):=by omega
 go_enter func5,ntmps5;go_wp2;go_ret;exact⟨rfl,bX⟩
theorem Rl (w:World) (a:Option Addr) (n cap:Nat) (hn:n<=1048576) (h:Ff w a n){ty:TypeId} {pv:Value} {pb pl pf pn:Addr}(hE:qt w ty pv pb pl pf pn) :
  Calls prog 5 #[.slice a n cap] w fun e w'=>e=.returned (.bool true)/\Below w.heap.size w w':=by
 have DR:=L3 w a n cap hn h;have ak:Hid (∀ u,Below w.heap.size w u->qt u ty pv pb pl pf pn):=fun u hu=>hE.below hu
 have cc:¬ (1048576:Int)<(n:Int):=by omega
 clear h hE;go_enter func5,ntmps5;go_wp2_with fail;refine DR.mono ?_;rintro e w1 ⟨d,vp,c,m,rfl,s1,bQ,cb,ca,D⟩;obtain⟨A,B,c6⟩:=ip s1;subst c6;obtain⟨I,bc⟩:∃ I,I=w1.heap.size:=⟨_,rfl⟩
 obtain⟨w2,av⟩:∃ w2,w2=w1.alloc (.cells #[.string d.r,.slice A d.ss.length B,.string d.log,.int .i64 d.syn] 25):=⟨_,rfl⟩
 have M:Below w1.heap.size w1 w2:=by rw[av];exact bY _
 have aY:ba w2 I d.r (.slice A d.ss.length B) d.log d.syn:=by rw[av,bc];exact ba.new w1 _ _ _ _
 have aX:Below w.heap.size w w2:=D.trans (M.mono D.size);have aI:Hid (Dk7 w2 w.heap.size (.slice A d.ss.length B) d):=⟨s1.below M,bQ⟩;have bp:=hZ aY;have aj:=hZ aX;have bF:=hZ av.symm;have bv:=hZ bc.symm;have IR:=L9 Oc c m (by omega) (by omega) aI.out (ak.out w2 aX);obtain⟨U,Z,d1,d2,d3,df⟩:=aY.facts;clear DR s1 bQ D M bc av aY aX;go_upto_region 4 with fail
 rw[bF.out,bv.out];clear bF bv;go_wp2_with fail;refine IR.mono ?_;rintro e w3 ⟨v3,rfl,r3,b3⟩;have aJ:=hZ (aI.out.below b3);have aE:=hZ (bp.out.below b3);have aD:=hZ (aj.out.trans (b3.mono aj.out.size));have bC:Hid (Rws w3 w.heap.size v3 ((dw d c m).getD [])):=cz r3 aj.out.size;have SR:=Lj c m (by omega) (by omega) aJ.out;obtain⟨U,Z,d1,d2,d3,df⟩:=aE.out.facts;clear IR r3 b3 aI bp aj;go_wp2_with fail;refine SR.mono ?_;rintro e w4 ⟨v4,rfl,r4,b4⟩;have a7:=hZ (aJ.out.below b4);have bq:=hZ (aE.out.below b4);have a6:=hZ (aD.out.trans (b4.mono aD.out.size))
 have al:=hZ (bC.out.below b4);have a4:Hid (((dw d c m).getD []).length<=60):=by
  show _<=_
  cases ho:dw d c m with
  | none=>simp
  | some L =>
   obtain⟨l,h1,_,_,h4⟩:=F6 ho;rw[h4];exact Nat.le_trans (List.length_filter_le _ _) (jz a7.out.ok (l8 h1).2).len
 have aq:=a4.out;have SM:=a40 (by omega) al.out r4;clear SR r4 b4 aJ aE aD bC
 cases ho:dw d c m with
 | none =>
  have hz:((none:Option (List Rw)).isSome)=false:=rfl;clear ho a4 aq ak;go_wp2_with fail;refine SM.mono ?_;rintro e w5 ⟨rfl,E⟩;have P:=hZ (a6.out.trans (E.mono a6.out.size));clear SM E;go_wp2;go_ret;exact⟨rfl,P.out⟩
 | some L =>
  rw[ho]at al aq;have hz:((some L:Option (List Rw)).isSome)=true:=rfl;obtain⟨l,ar,c1,c9,bM⟩:=F6 ho;have aZ:=jz a7.out.ok (l8 ar).2;have z:=nu (l8 ar).2;have bu:Hid (cm d=some l):=ar;have bU:Hid (L=l.filter (inK (bh (aa d.r) c) (bh (aa d.r) m))):=bM;have aS:=hZ aZ;have bX:L.length<=60:=aq;have bb:=aZ.len;have bd:Rws w4 w.heap.size v3 L:=al.out;obtain⟨aL,Y,c4⟩:=bz bd;subst c4;have bD:=hZ bd;have bE:Hid (∀ u,Below w4.heap.size w4 u->Calls prog 23 #[.string d.r] u fun e w'=>∃ vE,e=.returned (.tuple #[.agg #[vE,.bool (aa d.r).sh,.int .i64 (aa d.r).lv],.int .i64 (aa d.r).code])/\ac w' u.heap.size vE (aa d.r).es/\Below u.heap.size u w'):=fun u _=>Fy d.r u (by have:=a7.out.ok.rules;omega)
  clear ho a4 aq ar bM aZ bd al;go_wp2_with fail;refine SM.mono ?_;rintro e w5 ⟨rfl,E⟩;have RR:=bE.out w5 E;have bt:=hZ (a7.out.below E);have aG:=hZ (bq.out.below E);have P:=hZ (a6.out.trans (E.mono a6.out.size));have a9:=hZ (bD.out.below E);obtain⟨U,Z,d1,d2,d3,df⟩:=aG.out.facts;generalize (aa d.r).code=cde at *;clear SM E bE a7 bq a6 bD;go_wp2_with fail;refine RR.mono ?_;rintro e w6 ⟨ve,rfl,e6,b6⟩;obtain⟨p,s,c5⟩:=cu e6;subst c5;obtain⟨G,b0⟩:∃ G,G=w6.heap.size:=⟨_,rfl⟩
  obtain⟨w7,aw⟩:∃ w7,w7=w6.alloc (.cells #[.slice p (aa d.r).es.length s,.bool (aa d.r).sh,.int .i64 (aa d.r).lv] 56):=⟨_,rfl⟩
  have aW:Below w6.heap.size w6 w7:=by rw[aw];exact bY _
  have ah:=b6.trans (aW.mono b6.size);have ad:Hid (jf w7 G (.slice p (aa d.r).es.length s) (aa d.r).sh (aa d.r).lv):=by show _=_;rw[aw,b0];exact heap_alloc_new w6 _
  have bs:Hid (ac w7 w.heap.size (.slice p (aa d.r).es.length s) (aa d.r).es):=(ac.low e6 P.out.size).below aW;have aK:=hZ (bt.out.below ah);have aH:=hZ (aG.out.below ah);have Q:=hZ (P.out.trans (ah.mono P.out.size));have ab:=hZ (a9.out.below ah);have OR:=Vz aK.out;rw[show fu d=some l from (l8 bu.out).2]at OR;have bI:Calls prog 11 #[.agg #[.string d.r,(.slice A d.ss.length B),.string d.log,.int .i64 d.syn]] w7 fun e w'=>∃ v,e=.returned (.tuple #[v,.bool true])/\Rws w' w7.heap.size v l/\Below w7.heap.size w7 w':=OR
  have bG:=hZ aw.symm;have bm:=hZ b0.symm;obtain⟨U,Z,d1,d2,d3,df⟩:=aH.out.facts;clear RR e6 b6 aW ah aw b0 OR bt aG P a9;go_upto_region 11 with fail
  rw[bG.out,bm.out];clear bG bm;go_wp2_with fail;refine bI.mono ?_;rintro e w8 ⟨v8,rfl,r8,K⟩;obtain⟨aA,X,c2⟩:=bz r8;subst c2;have bV:Hid (Hq7 w w8 I G d (.slice A d.ss.length B) (.slice p (aa d.r).es.length s) (.slice aL L.length Y) (.slice aA l.length X) L l ty pv pb pl pf pn):=⟨aH.out.below K,ad.out.below K,bs.out.below K,ab.out.below K,cz r8 Q.out.size,aK.out.below K,ak.out w8 (Q.out.trans (K.mono Q.out.size)),Q.out.trans (K.mono Q.out.size)⟩;clear bI r8 K ak ad bs aK aH Q ab Z d1 d2 d3 df U;go_wp2_with fail;go_loopw [76] (fun i wr=>∃ k:Nat,k<=l.length/\i=.int .i64 (k:Int)/\Hq7 w wr I G d (.slice A d.ss.length B) (.slice p (aa d.r).es.length s) (.slice aL L.length Y) (.slice aA l.length X) L l ty pv pb pl pf pn) (fun i _=>l.length-(intOf i).toNat)
  case atStart=>exact⟨0,Nat.zero_le _,rfl,bV.out⟩
  case round =>
   obtain⟨k,hk,rfl,f⟩:=hrel;by_cases c0:k<l.length
   .obtain⟨x,H⟩:∃ x,l[k]? = some x:=by exact⟨_,List.getElem?_eq_getElem c0⟩
    have ay:=List.mem_of_getElem? H;rcases ew f.rowsA with h0|⟨bA,oA,rfl,bK⟩
    .rw[h0]at H;simp at H
    obtain⟨N,a1,a2⟩:=bK k x H;have ao:=ag N;have bZ:(k:Int)<(l.length:Int):=by omega
    have cd:=(aS.out.sz x ay).1;have bg:=aS.out.key x ay;have D:Below wr.heap.size wr (wr.alloc (.cells #[.string x.key,.string x.text,.string x.val] 37)):=bY _;have t:=f.below D;obtain⟨g,ax⟩:∃ g,g=wr.alloc (.cells #[.string x.key,.string x.text,.string x.val] 37):=⟨_,rfl⟩
    rw[<- ax]at t;have a8:=hZ t;obtain⟨W,b2⟩:∃ W,W=wr.heap.size:=⟨_,rfl⟩
    have an:Hid (di g W x):=by show di g W x;rw[ax,b2];exact ky wr x
    have bH:=hZ ax.symm;have bn:=hZ b2.symm;have C1:=Ep (sh:=(aa d.r).sh) (lv:=(aa d.r).lv) x.text (by omega) c (by omega) t.ents (nd z) t.env.tabs;rw[gd z (show x.text.size<=200 by omega),gd z (show c.size<=200 by omega),Sl z (by omega) (by omega),bg]at C1;have bo:Hid (∀ u,Hq7 w u I G d (.slice A d.ss.length B) (.slice p (aa d.r).es.length s) (.slice aL L.length Y) (.slice (some ⟨bA,oA,none⟩) l.length X) L l ty pv pb pl pf pn->Calls prog 24 #[.agg #[(.slice p (aa d.r).es.length s),.bool (aa d.r).sh,.int .i64 (aa d.r).lv],.string x.text,.string m] u fun e w'=>e=.returned (.tuple #[.int .i64 (mp x.key (bh (aa d.r) m)),.bool true])/\Below u.heap.size u w'):=fun u hu=>by
     have q:=Ep (sh:=(aa d.r).sh) (lv:=(aa d.r).lv) x.text (by omega) m (by omega) hu.ents (nd z) hu.env.tabs;rw[gd z (show x.text.size<=200 by omega),gd z (show m.size<=200 by omega),Sl z (by omega) (by omega),bg]at q;exact q
    have bk:Calls prog 24 #[.agg #[(.slice p (aa d.r).es.length s),.bool (aa d.r).sh,.int .i64 (aa d.r).lv],.string x.text,.string c] g fun e w'=>e=.returned (.tuple #[.int .i64 (mp x.key (bh (aa d.r) c)),.bool true])/\Below g.heap.size g w':=C1
    have bl:Hid (qw L x L.length=inK (bh (aa d.r) c) (bh (aa d.r) m) x):=by show _=_;rw[bU.out];exact a67 ay
    generalize bh (aa d.r) c=from_ at *;generalize bh (aa d.r) m=to_ at *;obtain⟨au,az,aB,aC⟩:=t.rul.facts;obtain⟨e0,e1,e2⟩:=an.out.cells;have b7:=an.out.lt;clear f t D H bK C1 bg ax b2 ay;go_upto_region 15 with fail
    rw[bH.out,bn.out];clear bH bn;go_wp2_with fail;refine bk.mono ?_;rintro e bR ⟨rfl,T⟩;have R:=hZ (a8.out.below T);have a3:=hZ (an.out.below T);have C2:=bo.out bR R.out;obtain⟨au,az,aB,aC⟩:=R.out.rul.facts;obtain⟨e0,e1,e2⟩:=a3.out.cells;have b7:=a3.out.lt;obtain⟨sa,be⟩:∃ sa,sa=mp x.key from_:=⟨_,rfl⟩
    rw[<- be];have ae:Hid (sa=mp x.key from_):=be;clear bk T a8 an bo be;go_wp2_with fail;refine C2.mono ?_;rintro e cg ⟨rfl,aV⟩;have aM:=hZ (R.out.below aV);have aT:=hZ (a3.out.below aV);obtain⟨sb,bf⟩:∃ sb,sb=mp x.key to_:=⟨_,rfl⟩
    rw[<- bf];have af:Hid (sb=mp x.key to_):=bf;clear C2 aV R a3 bf az aB aC au e0 e1 e2 b7 N a1 a2 ao;go_wp2_with fail;go_loopw [20,98] (fun vi i wr=>∃ j:Nat,j<=L.length/\i=.int .i64 (j:Int)/\vi=.bool (qw L x j)/\di wr W x/\Hq7 w wr I G d (.slice A d.ss.length B) (.slice p (aa d.r).es.length s) (.slice aL L.length Y) (.slice (some ⟨bA,oA,none⟩) l.length X) L l ty pv pb pl pf pn) (fun _ i _=>L.length-(intOf i).toNat)
    case atStart=>exact⟨0,Nat.zero_le _,rfl,by simp[qw],aT.out,aM.out⟩
    case round =>
     obtain⟨j,hj,rfl,rfl,hX,f⟩:=hrel;by_cases b9:j<L.length
     .obtain⟨y,C⟩:∃ y,L[j]? = some y:=by exact⟨_,List.getElem?_eq_getElem b9⟩
      rcases ew f.rowsL with h0|⟨bL,oL,rfl,ai⟩
      .rw[h0]at C;simp at C
      obtain⟨N,a1,a2⟩:=ai j y C;have ao:=ag N;have bN:(j:Int)<(L.length:Int):=by omega
      obtain⟨e0,e1,e2⟩:=hX.cells;have b7:=hX.lt;have S:Hid (qw L x (j+1)=(qw L x j || decide (y.key=x.key/\y.text=x.text/\y.val=x.val))):=Xw C;have aU:Hid (∀ o,di (wr.alloc o) W x):=fun o=>hX.below (bY o)
      have aP:Hid (∀ o,Hq7 w (wr.alloc o) I G d (.slice A d.ss.length B) (.slice p (aa d.r).es.length s) (.slice (some ⟨bL,oL,none⟩) L.length Y) (.slice (some ⟨bA,oA,none⟩) l.length X) L l ty pv pb pl pf pn):=fun o=>f.below (bY o)
      clear f hX C ai;generalize qw L x j=am at *
      cases am
      .by_cases V:y.key=x.key/\y.text=x.text/\y.val=x.val
       .have HV:Hid (qw L x (j+1)=true):=by show _=_;rw[S.out,decide_eq_true V];rfl
        have c7:=a36 V;subst c7;clear S V;go_wp2;exact⟨⟨j+1,by omega,by go_num,by rw[HV.out],aU.out _,aP.out _⟩,by simp[intOf];omega⟩
       .have HV:Hid (qw L x (j+1)=false):=by show _=_;rw[S.out,decide_eq_false V];rfl
        have bW:Hid (¬ (y.key=x.key/\y.text=x.text/\y.val=x.val)):=V;clear S V;go_wp2;all_goals first
         | (exfalso;refine bW.out ⟨?_,?_,?_⟩ <;> (apply ac8;assumption))
         | exact⟨⟨j+1,by omega,by go_num,by rw[HV.out],aU.out _,aP.out _⟩,by simp[intOf];omega⟩
      .have HV:Hid (qw L x (j+1)=true):=by show _=_;rw[S.out];rfl
       clear S;go_wp2;exact⟨⟨j+1,by omega,by go_num,by rw[HV.out],aU.out _,aP.out _⟩,by simp[intOf];omega⟩
     .obtain rfl:j=L.length:=by omega
      have aO:=hZ f;have a5:=bl.out;rw[a5];clear f hX bl a5
      cases hlo_:ltK x.key from_
      .obtain⟨g1,g2⟩:=Sj hlo_
       rw[<- ae.out]at g1 g2
       cases hhi_:ltK x.key to_
       .obtain⟨O,g4⟩:=Sj hhi_
        rw[<- af.out]at O g4;have J:inK from_ to_ x=false:=by unfold inK;rw[hlo_,hhi_];rfl
        rw[J];clear hlo_ hhi_ J ae af;go_wp2;exact⟨⟨k+1,by omega,by go_num,aO.out⟩,by simp[intOf];omega⟩
       .have O:=Sk hhi_
        rw[<- af.out]at O;have J:inK from_ to_ x=true:=by unfold inK;rw[hlo_,hhi_];rfl
        rw[J];clear ae af;subst O;clear hlo_ hhi_ J;go_wp2;exact⟨⟨k+1,by omega,by go_num,aO.out⟩,by simp[intOf];omega⟩
      .have O:=Sk hlo_
       rw[<- ae.out]at O;have J:inK from_ to_ x=false:=by unfold inK;rw[hlo_];rfl
       rw[J];clear ae af;subst O;clear hlo_ J;go_wp2;exact⟨⟨k+1,by omega,by go_num,aO.out⟩,by simp[intOf];omega⟩
   .have bZ:¬ (k:Int)<(l.length:Int):=by omega
    obtain⟨g,rfl⟩:∃ g,g=wr:=⟨_,rfl⟩
    have bw:=hZ f;have PR:=Nf Oc c (by omega) f.dk f.env;have bO:te d c=some (l.filter (fun x=>ww (aa d.r).es (aa d.r).sh (aa d.r).lv x.text c)):=by
     unfold te;rw[bu.out];show (if _ then _ else _)=_
     rw[if_pos c1]
    rw[bO]at PR;obtain⟨F,hF⟩:∃ F,F=l.filter (fun x=>ww (aa d.r).es (aa d.r).sh (aa d.r).lv x.text c):=⟨_,rfl⟩
    rw[<- hF]at PR;have bJ:Calls prog 25 #[.agg #[.string d.r,(.slice A d.ss.length B),.string d.log,.int .i64 d.syn],.string c] g fun e w'=>∃ v,e=.returned (.tuple #[v,.bool true])/\Rws w' g.heap.size v F/\Below g.heap.size g w':=PR
    have bT:Hid (∀ x ∈ F,x.text.size<=60/\ww (aa d.r).es (aa d.r).sh (aa d.r).lv x.text c=true):=fun x H=>by
     rw[hF]at H;exact⟨(aS.out.sz x (List.mem_filter.1 H).1).1,(List.mem_filter.1 H).2⟩
    have c8:F.length<=60:=by rw[hF];exact Nat.le_trans (List.length_filter_le _ _) bb
    obtain⟨U,Z,d1,d2,d3,df⟩:=f.disk.facts;clear f PR bO hF;go_wp2_with fail;refine bJ.mono ?_;rintro e bR ⟨cf,rfl,bi,T⟩;obtain⟨aF,cF,c3⟩:=bz bi;subst c3;have R:=hZ (bw.out.below T);have aQ:=hZ bi;clear bJ bi T bw Z d1 d2 d3 df U;go_wp2_with fail;go_loopw [136] (fun i wr=>∃ j:Nat,j<=F.length/\i=.int .i64 (j:Int)/\Rws wr g.heap.size (.slice aF F.length cF) F/\Hq7 w wr I G d (.slice A d.ss.length B) (.slice p (aa d.r).es.length s) (.slice aL L.length Y) (.slice aA l.length X) L l ty pv pb pl pf pn) (fun i _=>F.length-(intOf i).toNat)
    case atStart=>exact⟨0,Nat.zero_le _,rfl,aQ.out,R.out⟩
    case round =>
     obtain⟨j,hj,rfl,hR,f⟩:=hrel;by_cases b9:j<F.length
     .obtain⟨y,C⟩:∃ y,F[j]? = some y:=by exact⟨_,List.getElem?_eq_getElem b9⟩
      rcases ew hR with h0|⟨b,o,rfl,ai⟩
      .rw[h0]at C;simp at C
      obtain⟨N,a1,a2⟩:=ai j y C;have ao:=ag N;have bN:(j:Int)<(F.length:Int):=by omega
      obtain⟨ce,bP⟩:=bT.out y (List.mem_of_getElem? C);have D:Below wr.heap.size wr (wr.alloc (.cells #[.string y.key,.string y.text,.string y.val] 37)):=bY _;have t:=f.below D;have BG:=Bo (sh:=(aa d.r).sh) (lv:=(aa d.r).lv) y.text (by omega) c (by omega) t.ents (nd z) t.env.tabs;rw[gd z (show y.text.size<=200 by omega),gd z (show c.size<=200 by omega),bP]at BG;have bj:Calls prog 26 #[.agg #[(.slice p (aa d.r).es.length s),.bool (aa d.r).sh,.int .i64 (aa d.r).lv],.string y.text,.string c] (wr.alloc (.cells #[.string y.key,.string y.text,.string y.val] 37)) fun e w'=>e=.returned (.tuple #[.bool true,.bool true])/\Below (wr.alloc (.cells #[.string y.key,.string y.text,.string y.val] 37)).heap.size (wr.alloc (.cells #[.string y.key,.string y.text,.string y.val] 37)) w':=BG
      obtain⟨au,az,aB,aC⟩:=f.rul.facts;have a8:=hZ t;have bB:=hZ (hR.below D);clear f t hR D BG C ai bP;go_wp2_with fail;refine bj.mono ?_;rintro e ch ⟨rfl,M⟩;have aN:=hZ (a8.out.below M);have aR:=hZ (bB.out.below M);clear bj M a8 bB az aB aC au N a1 a2 ao;go_wp2
      exact⟨⟨j+1,by omega,by go_num,aR.out,aN.out⟩,by simp[intOf];omega⟩
     .have bN:¬ (j:Int)<(F.length:Int):=by omega
      have bS:Hid (Below w.heap.size w wr):=f.bel;clear f hR;go_wp2;go_ret;exact⟨rfl,bS.out⟩
end Go.Proofs.YtjbmgghehdemdaaGreatDoor
