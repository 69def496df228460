/- DrawDo7 -/
import Derived.Test.YtjbmgghehdemdaaGreatDoorMR35
namespace Go.Proofs.YtjbmgghehdemdaaGreatDoor
set_option maxRecDepth 100000
set_option maxHeartbeats 16000000
open _root_.Go.Proofs.Tryz
open Go.RowKit
structure Dd7 (w u:World) (B b k pa pb:Nat) (kd:Int) (x v:ByteArray):Prop where
 cur:Cur u B b k
 ans:gi u pa 0 ⟨#[]⟩ ⟨#[]⟩
 box:gi u pb kd x v
 gr:w.grownBy u (some b)
 la:B<=pa
 lw:w.heap.size<=pa
 lb:pa<pb
theorem Dd7.moved {w u u':World} {B b k d pb m:Nat} {c:Int} {x v:ByteArray}(h:Dd7 w u B b k d pb c x v) (f:ed u u' B b k m):∃ a,a<=k+m/\Dd7 w u' B b a d pb c x v:=by
 obtain⟨⟨a,i,e⟩,g⟩:=f;have n:=h.cur.lt;have j:=h.la;have l:=h.lb;exact⟨a,i,e,em g (by omega) h.ans,em g (by omega) h.box,bu h.gr g,h.la,h.lw,h.lb⟩
theorem Dd7.below {w u u':World} {B b k d pb:Nat} {c:Int} {x v:ByteArray}(h:Dd7 w u B b k d pb c x v) (a:Below u.heap.size u u'):Dd7 w u' B b k d pb c x v :=
 have g:u.grownBy u' none:=⟨a.os,a.tape,a.output,a.size,fun i hi _=>a.block i hi⟩;⟨h.cur.kept g (fun _ hj=>by cases hj),h.ans.below a,h.box.below a,fd h.gr g (fun _ hj=>by cases hj),h.la,h.lw,h.lb⟩
theorem Dd7.grew {w u u':World} {B b k c pb p:Nat} {f a:Int} {x v d v':ByteArray}(h:Dd7 w u B b k c pb f x v) (g:u.grownBy u' (some p)) (n:p=pb) (e:gi u' pb a d v'):Dd7 w u' B b k c pb a d v' :=
 have i:=h.la;have l:=h.lb;have m:=h.lw;⟨h.cur.kept g (fun j hj=>by have:=Option.some.inj hj;omega),em g (by omega) h.ans,e,fd h.gr g (fun j hj=>by have:=Option.some.inj hj;omega),h.la,h.lw,h.lb⟩
theorem gi.setN {u:World} {p:Nat} {k:Int} {x y:ByteArray}(h:gi u p k x y) (a:Int):gi (u.setCell ⟨p,0,none⟩ (.int .i64 a)) p a x y:=by
 have e:=heap_setCell_same u p 0 _ _ (.int .i64 a) h;show _=_
 rw[e];simp
theorem gi.setX {u:World} {p:Nat} {k:Int} {x y:ByteArray}(h:gi u p k x y) (a:ByteArray):gi (u.setCell ⟨p,1,none⟩ (.string a)) p k a y:=by
 have e:=heap_setCell_same u p 1 _ _ (.string a) h;show _=_
 rw[e];simp
theorem gi.setV {u:World} {p:Nat} {k:Int} {x y:ByteArray}(h:gi u p k x y) (y':ByteArray):gi (u.setCell ⟨p,2,none⟩ (.string y')) p k x y':=by
 have e:=heap_setCell_same u p 2 _ _ (.string y') h;show _=_
 rw[e];simp
theorem gi.free {u:World} {p:Nat} {k:Int} {x y:ByteArray}(h:gi u p k x y) (j:Nat):u.frozen? ⟨p,j,none⟩=false:=frozen_of_row _ _ j _ _ h
theorem Dd7.setN {w u:World} {B b k c pb:Nat} {d:Int} {x v:ByteArray}(h:Dd7 w u B b k c pb d x v) (a:Int):Dd7 w (u.setCell ⟨pb,0,none⟩ (.int .i64 a)) B b k c pb a x v:=h.grew (dq u pb 0 _) rfl (h.box.setN a)
theorem Dd7.setX {w u:World} {B b k d pb:Nat} {c:Int} {x v:ByteArray}(h:Dd7 w u B b k d pb c x v) (a:ByteArray):Dd7 w (u.setCell ⟨pb,1,none⟩ (.string a)) B b k d pb c a v:=h.grew (dq u pb 1 _) rfl (h.box.setX a)
theorem Dd7.setV {w u:World} {B b k c pb:Nat} {a:Int} {x v:ByteArray}(h:Dd7 w u B b k c pb a x v) (v':ByteArray):Dd7 w (u.setCell ⟨pb,2,none⟩ (.string v')) B b k c pb a x v':=h.grew (dq u pb 2 _) rfl (h.box.setV v')
theorem Dd7.done {w u:World} {B b k a pb k0 m:Nat} {f:Int} {x v:ByteArray}(h:Dd7 w u B b k a pb f x v) (e:k<=k0+m) (c d a3:Value):ed w (Gb u a c d a3) B b k0 m :=
 have g:=Ib u a c d a3;have i:=h.la;have l:=h.lw;⟨⟨k,e,h.cur.kept g (fun j hj=>by have:=Option.some.inj hj;omega)⟩,fd h.gr g (fun j hj=>by have:=Option.some.inj hj;omega)⟩
theorem Re (n:Nat):(madeCells (Value.int .u8 0).cells (n*1)).toList=(List.replicate n (0:Int)).map (Value.int .u8):=by
 have h:=toList_madeCells_one (Value.int .u8 0) n;simpa [Value.cells] using h
theorem p8 {w:World} {B m g:Nat}(h:w.ownsRow B 5 1 (.slice (some ⟨g,0,none⟩) m m) m (madeCells (Value.int .u8 0).cells (m*1)).toList) :
  (convert 22 9 (.slice (some ⟨g,0,none⟩) m m)).run prog w=.ok (.string (ix (List.replicate m (0:Int)))) w:=by
 rw[Re]at h;exact xb (B:=B) (by unfold Bys;simpa using h)
theorem np (xs:List Int):(ix xs).size=xs.length:=by
 show (xs.map fun x=>x.toNat.toUInt8).toArray.size=xs.length
 simp
theorem Vj:(prog.info? 5).map (fun i=>(i.zero,i.size,i.bytes))=some (some (.int .u8 0),1,1):=by kernel_rfl
theorem Sr (zs:List Int):(jw zs).length<=4*zs.length:=by
 have:=C9 zs zs.length;rwa [List.take_length]at this
def doT:List ByteArray:=[⟨#[97]⟩,⟨#[65]⟩,⟨#[97,98]⟩,⟨#[195,169]⟩,⟨#[101,204,129]⟩,⟨#[99,104]⟩,⟨#[99]⟩]
def doV:List ByteArray:=[⟨#[]⟩,⟨#[49]⟩,⟨#[116,119,111]⟩,⟨#[118,97,108,117,101]⟩]
theorem Yj:∀ s ∈ doT,s.size<=10:=by decide
theorem at2:∀ s ∈ doV,s.size<=10:=by decide
theorem Io (w:World) (B b k:Nat) (h:Cur w B b k) (hk:k<=600000000) :
  Calls prog 28 #[.pointer (some ⟨b,0,none⟩)] w fun e w'=>∃ (t:Int) (x v:ByteArray),e=.returned (.agg #[.int .i64 t,.string x,.string v])/\x.size<=300/\v.size<=300/\ed w w' B b k 200:=by
 obtain⟨i0,Y,al,am,an⟩:=info_parts Vj;have b4:=h.lt;have bA:Below w.heap.size w (w.alloc (.cells #[.int .i64 0,.string ⟨#[]⟩,.string ⟨#[]⟩] 27)):=bY _;have O:Below w.heap.size w ((w.alloc (.cells #[.int .i64 0,.string ⟨#[]⟩,.string ⟨#[]⟩] 27)).alloc (.cells #[.int .i64 1,.int .i64 1,.int .i64 1,.int .i64 1,.int .i64 2,.int .i64 3,.int .i64 4] 3)):=bA.alloc (by simp) _;have gL:w.grownBy ((w.alloc (.cells #[.int .i64 0,.string ⟨#[]⟩,.string ⟨#[]⟩] 27)).alloc (.cells #[.int .i64 1,.int .i64 1,.int .i64 1,.int .i64 1,.int .i64 2,.int .i64 3,.int .i64 4] 3)) none:=⟨O.os,O.tape,O.output,O.size,fun i Y _=>O.block i Y⟩;have aQ:=h.kept gL (fun _ hj=>by cases hj)
 have hL:((w.alloc (.cells #[.int .i64 0,.string ⟨#[]⟩,.string ⟨#[]⟩] 27)).alloc (.cells #[.int .i64 1,.int .i64 1,.int .i64 1,.int .i64 1,.int .i64 2,.int .i64 3,.int .i64 4] 3)).heap[w.heap.size+1]? = some (.cells #[.int .i64 1,.int .i64 1,.int .i64 1,.int .i64 1,.int .i64 2,.int .i64 3,.int .i64 4] 3):=by
  have q:=heap_alloc_new (w.alloc (.cells #[.int .i64 0,.string ⟨#[]⟩,.string ⟨#[]⟩] 27)) (.cells #[.int .i64 1,.int .i64 1,.int .i64 1,.int .i64 1,.int .i64 2,.int .i64 3,.int .i64 4] 3);rw[World.size_alloc]at q;exact q
 have aO:Hid (gi ((w.alloc (.cells #[.int .i64 0,.string ⟨#[]⟩,.string ⟨#[]⟩] 27)).alloc (.cells #[.int .i64 1,.int .i64 1,.int .i64 1,.int .i64 1,.int .i64 2,.int .i64 3,.int .i64 4] 3)) w.heap.size 0 ⟨#[]⟩ ⟨#[]⟩):=by
  show _=_
  rw[Below.heap_alloc _ _ _ (by simp)];exact heap_alloc_new w _
 have A1:=qj ((w.alloc (.cells #[.int .i64 0,.string ⟨#[]⟩,.string ⟨#[]⟩] 27)).alloc (.cells #[.int .i64 1,.int .i64 1,.int .i64 1,.int .i64 1,.int .i64 2,.int .i64 3,.int .i64 4] 3)) B b k aQ (by omega) (w.heap.size+1) 7 7 [1,1,1,1,2,3,4] rfl (by omega) (by omega) (by simp) (by omega) (fun j hj=>by rcases (show j=0\/j=1\/j=2\/j=3\/j=4\/j=5\/j=6 by omega) with rfl|rfl|rfl|rfl|rfl|rfl|rfl <;> exact cell_of_row _ _ _ _ _ _ hL);have aj:=hZ gL;clear h bA O gL aQ hL;go_enter func28,ntmps28;go_wp2_with fail;refine A1.mono ?_;rintro e Q ⟨t,rfl,aG,⟨k2,bb,aJ⟩,g2⟩;have bc:=aJ.lt
 have aP:w.grownBy Q (some b):=⟨g2.os.trans aj.out.os,g2.tape.trans aj.out.tape,g2.output.trans aj.out.output,Nat.le_trans aj.out.size g2.size,fun i Y hn=>(g2.block i (Nat.lt_of_lt_of_le Y aj.out.size) hn).trans (aj.out.block i Y (by simp))⟩;have aI:gi Q w.heap.size 0 ⟨#[]⟩ ⟨#[]⟩:=em g2 (by omega) aO.out;have ap:=aI.facts.1;have ak:Hid (∀ t:Int,Dd7 w (Q.alloc (.cells #[.int .i64 t,.string ⟨#[]⟩,.string ⟨#[]⟩] 27)) B b k2 w.heap.size Q.heap.size t ⟨#[]⟩ ⟨#[]⟩):=fun t=>by
  have bB:Below Q.heap.size Q (Q.alloc (.cells #[.int .i64 t,.string ⟨#[]⟩,.string ⟨#[]⟩] 27)):=bY _;have gB:Q.grownBy (Q.alloc (.cells #[.int .i64 t,.string ⟨#[]⟩,.string ⟨#[]⟩] 27)) none:=⟨bB.os,bB.tape,bB.output,bB.size,fun i Y _=>bB.block i Y⟩;exact⟨aJ.kept gB (fun _ hj=>by cases hj),aI.below bB,heap_alloc_new Q _,fd aP gB (fun _ hj=>by cases hj),b4.2,bR,ap⟩
 obtain⟨pb,aW⟩:∃ pb,pb=Q.heap.size:=⟨_,rfl⟩
 have a9:Hid (pb=Q.heap.size):=aW;clear A1 aj aO aJ g2 aP aI ap aW;have aM:t=1\/t=2\/t=3\/t=4:=by
  simp at aG;omega
 clear aG;rcases aM with rfl|rfl|aG
 .have C:=ak.out 1
  rw[<- a9.out]at C;have aq:∃ w3,w3=Q.alloc (.cells #[.int .i64 1,.string ⟨#[]⟩,.string ⟨#[]⟩] 27):=⟨_,rfl⟩
  obtain⟨w3,a8⟩:=aq;have ab:=hZ a8.symm;rw[<- a8]at C;have Z:=hZ C;clear ak a8;go_upto_region 2 with fail
  rw[ab.out,<- a9.out];clear ab a9;obtain⟨F,G,H,I⟩:=C.box.facts;have E:=C.box.free;clear C;have R3:=D0 _ B b k2 4 Z.out.cur (by omega) (by omega);go_wp2_with fail;refine R3.mono ?_;rintro e w4 ⟨v4,zs,rfl,i4,b9,ar,d⟩;obtain⟨k4,b1,S4⟩:=Z.out.moved d;have EN:=xm (by omega) i4 ar;have aK:=Sr zs;have ao:=hZ S4;clear R3 d Z S4 i4 ar;go_wp2_with fail;refine EN.mono ?_;rintro e w5 ⟨rfl,b5⟩;have S5:=ao.out.below b5;obtain⟨F,G,H,I⟩:=S5.box.facts;have E:=S5.box.free;have aN:(⟨(jw zs).toArray⟩:ByteArray).size<=16:=by show (jw zs).toArray.size<=16;simp;omega
  generalize (⟨(jw zs).toArray⟩:ByteArray)=u at *;have c:Hid (Dd7 w (w5.setCell ⟨pb,1,none⟩ (.string u)) B b k4 w.heap.size pb 1 u ⟨#[]⟩):=S5.setX u;have O6:=uj _ B b k4 c.out.cur (by omega) 2 (by omega) (by omega);clear EN b5 S5 ao aK;go_wp2_with fail;refine O6.mono ?_;rintro e R ⟨bo,rfl,d⟩;obtain⟨D,X,a⟩:=c.out.moved d;have z:=hZ a;clear O6 d c a;go_upto_if 21 with fail
  go_cut [] from 22 to 25 (fun wx=>∃ (P:Nat) (l:ByteArray),P<=D+2/\l.size<=16/\Dd7 w wx B b P w.heap.size pb 1 l ⟨#[]⟩)
  case first =>
   cases bo
   .go_wp2
    go_meet
    case rel=>exact⟨D,u,by omega,aN,z.out⟩
   .have OF:=uh R B b D z.out.cur (by omega) doT 7 rfl (by omega) (by omega) _ rfl
    go_wp2_with fail;refine OF.mono ?_;rintro e w8 ⟨s8,rfl,aw,d⟩;obtain⟨P,aL,f⟩:=z.out.moved d;have b7:=Yj s8 aw;obtain⟨F,G,H,I⟩:=f.box.facts;have E:=f.box.free;have a2:Hid (Dd7 w (w8.setCell ⟨pb,1,none⟩ (.string s8)) B b P w.heap.size pb 1 s8 ⟨#[]⟩):=f.setX s8;clear OF d f z aw;go_wp2;go_meet
    case rel=>exact⟨P,s8,by omega,by omega,a2.out⟩
  case rest =>
   obtain⟨P,l,aL,b8,f⟩:=hcut;have a2:=hZ f;obtain⟨F,G,H,I⟩:=f.box.facts;have E:=f.box.free;obtain⟨w9,rfl⟩:∃ w9,w9=wc:=⟨_,rfl⟩
   clear f z;have OV:=uh w9 B b P a2.out.cur (by omega) doV 4 rfl (by omega) (by omega) _ rfl;go_wp2_with fail;refine OV.mono ?_;rintro e ba ⟨A,rfl,au,d⟩;obtain⟨aZ,b0,aF⟩:=a2.out.moved d;have b6:=at2 A au;obtain⟨F,G,H,I⟩:=aF.box.facts;have E:=aF.box.free;have aH:Hid (Dd7 w (ba.setCell ⟨pb,2,none⟩ (.string A)) B b aZ w.heap.size pb 1 l A):=aF.setV A;clear OV d aF a2 au;have P5:=ep _ B b aZ aH.out.cur (by omega) 40 (by omega) (by omega);go_wp2_with fail;refine P5.mono ?_;rintro e s ⟨q,rfl,q0,q1,d⟩;obtain⟨W,aV,S6⟩:=aH.out.moved d;have c:=hZ S6;clear P5 d aH S6;by_cases ac:q=0
   .subst ac
    have M:=ep s B b W c.out.cur (by omega) 2 (by omega) (by omega);go_wp2_with fail;refine M.mono ?_;rintro e R ⟨y,rfl,N,y1,d⟩;obtain⟨D,X,a⟩:=c.out.moved d;clear M d c;obtain⟨y,rfl⟩:=Int.eq_ofNat_of_zero_le N;have hy:y<=1:=by omega
    have ax:=a.cur.lt;have r:¬ pb=w.heap.size:=by have:=a.lb;omega
    have S:¬ w.heap.size=pb:=fun e=>r e.symm
    have z:=hZ a;clear N y1 a;go_wp2_with (at_make;refine wpList_make_full _ rfl _ _ 22 rfl B 5 i0 (.int .u8 0) 1 underlying22 Y al am .i64 .i64 _ _ (60+y) rfl rfl (by omega) (by omega) (by rw[an];omega) (by unfold maxLen;omega) (by omega) ?_;intro w8 K J;have V:=p8 K;have L:=np (List.replicate (60+y) 0);rw[List.length_replicate]at L;generalize ix (List.replicate (60+y) 0)=mk_ at V L;have f:=z.out.below (Below.grown bX J bR (fun j hj=>by cases hj));obtain⟨a6,az,aA,aB⟩:=f.box.facts;have a5:=f.box.free;obtain⟨a4,aC,aD,aE⟩:=f.ans.facts;have a3:=f.ans.free)
    have g:=f.setX mk_;have n:Hid (ed _ _ _ _ _ _):=g.done (k0:=k) (m:=200) (by omega) (.int .i64 1) (.string mk_) (.string A);have p:Hid (mk_.size<=300):=by show _<=_;first|omega|exact Nat.zero_le _
    have o:Hid (A.size<=300):=by show _<=_;first|omega|exact Nat.zero_le _
    clear K J f g;go_wp2;refine bodyPost_ret (v:=.agg #[.int .i64 1,.string mk_,.string A]) ?_ rfl ⟨1,mk_,A,rfl,p.out,o.out,n.out⟩;rw[av rfl];go_simp
   by_cases ad:q=1
   .subst ad
    have M:=ep s B b W c.out.cur (by omega) 2 (by omega) (by omega);go_wp2_with fail;refine M.mono ?_;rintro e R ⟨y,rfl,N,y1,d⟩;obtain⟨D,X,a⟩:=c.out.moved d;clear M d c;obtain⟨y,rfl⟩:=Int.eq_ofNat_of_zero_le N;have hy:y<=1:=by omega
    have ax:=a.cur.lt;have r:¬ pb=w.heap.size:=by have:=a.lb;omega
    have S:¬ w.heap.size=pb:=fun e=>r e.symm
    have z:=hZ a;clear N y1 a;go_wp2_with (at_make;refine wpList_make_full _ rfl _ _ 22 rfl B 5 i0 (.int .u8 0) 1 underlying22 Y al am .i64 .i64 _ _ (60+y) rfl rfl (by omega) (by omega) (by rw[an];omega) (by unfold maxLen;omega) (by omega) ?_;intro w8 K J;have V:=p8 K;have L:=np (List.replicate (60+y) 0);rw[List.length_replicate]at L;generalize ix (List.replicate (60+y) 0)=mk_ at V L;have f:=z.out.below (Below.grown bX J bR (fun j hj=>by cases hj));obtain⟨a6,az,aA,aB⟩:=f.box.facts;have a5:=f.box.free;obtain⟨a4,aC,aD,aE⟩:=f.ans.facts;have a3:=f.ans.free)
    have g:=f.setV mk_;have n:Hid (ed _ _ _ _ _ _):=g.done (k0:=k) (m:=200) (by omega) (.int .i64 1) (.string l) (.string mk_);have p:Hid (l.size<=300):=by show _<=_;first|omega|exact Nat.zero_le _
    have o:Hid (mk_.size<=300):=by show _<=_;first|omega|exact Nat.zero_le _
    clear K J f g;go_wp2;refine bodyPost_ret (v:=.agg #[.int .i64 1,.string l,.string mk_]) ?_ rfl ⟨1,l,mk_,rfl,p.out,o.out,n.out⟩;rw[av rfl];go_simp
   have aR:(q == 0)=false:=by simpa using ac
   have aS:(q == 1)=false:=by simpa using ad
   by_cases ae:q=2
   .subst ae
    have O:Below s.heap.size s (s.alloc (.cells #[.int .i64 0,.int .i64 5] 3)):=bY _;have U:=c.out.below O;have hL:=heap_alloc_new s (.cells #[.int .i64 0,.int .i64 5] 3);have ay:=U.cur.lt;have aX:=c.out.cur.lt;have A7:=qj (s.alloc (.cells #[.int .i64 0,.int .i64 5] 3)) B b W U.cur (by omega) s.heap.size 2 2 [0,5] rfl (by omega) (by omega) (by simp) (by omega) (fun j hj=>by rcases (show j=0\/j=1 by omega) with rfl|rfl <;> exact cell_of_row _ _ _ _ _ _ hL);have aa:=hZ U;clear O U hL ay c;go_wp2_with fail;refine A7.mono ?_;rintro e R ⟨T,rfl,a7,d⟩;obtain⟨D,X,a⟩:=aa.out.moved d;obtain⟨F,G,H,I⟩:=a.box.facts;have E:=a.box.free;obtain⟨a1,ag,ah,ai⟩:=a.ans.facts;have a0:=a.ans.free
    have r:¬ pb=w.heap.size:=by have:=a.lb;omega
    have S:¬ w.heap.size=pb:=fun e=>r e.symm
    have g:=a.setN T;have n:Hid (ed _ _ _ _ _ _):=g.done (k0:=k) (m:=200) (by omega) (.int .i64 T) (.string l) (.string A);have p:Hid (l.size<=300):=by show _<=_;first|omega|exact Nat.zero_le _
    have o:Hid (A.size<=300):=by show _<=_;first|omega|exact Nat.zero_le _
    clear A7 d aa a g a7;go_wp2;refine bodyPost_ret (v:=.agg #[.int .i64 T,.string l,.string A]) ?_ rfl ⟨T,l,A,rfl,p.out,o.out,n.out⟩;rw[av rfl];go_simp
   have aT:(q == 2)=false:=by simpa using ae
   by_cases af:q=3
   .subst af
    have T7:=Ge s B b W c.out.cur (by omega);go_wp2_with fail;refine T7.mono ?_;rintro e R ⟨u,rfl,aY,d⟩;obtain⟨D,X,a⟩:=c.out.moved d;obtain⟨F,G,H,I⟩:=a.box.facts;have E:=a.box.free;obtain⟨a1,ag,ah,ai⟩:=a.ans.facts;have a0:=a.ans.free;have r:¬ pb=w.heap.size:=by have:=a.lb;omega
    have S:¬ w.heap.size=pb:=fun e=>r e.symm
    have g:=a.setX u;have n:Hid (ed _ _ _ _ _ _):=g.done (k0:=k) (m:=200) (by omega) (.int .i64 1) (.string u) (.string A);have p:Hid (u.size<=300):=by show _<=_;first|omega|exact Nat.zero_le _
    have o:Hid (A.size<=300):=by show _<=_;first|omega|exact Nat.zero_le _
    clear T7 d c a g;go_wp2;refine bodyPost_ret (v:=.agg #[.int .i64 1,.string u,.string A]) ?_ rfl ⟨1,u,A,rfl,p.out,o.out,n.out⟩;rw[av rfl];go_simp
   have aU:(q == 3)=false:=by simpa using af
   obtain⟨F,G,H,I⟩:=c.out.box.facts;have E:=c.out.box.free;obtain⟨a1,ag,ah,ai⟩:=c.out.ans.facts;have a0:=c.out.ans.free;have r:¬ pb=w.heap.size:=by have:=c.out.lb;omega
   have S:¬ w.heap.size=pb:=fun e=>r e.symm
   have n:Hid (ed _ _ _ _ _ _):=c.out.done (k0:=k) (m:=200) (by omega) (.int .i64 1) (.string l) (.string A);have p:Hid (l.size<=300):=by show _<=_;first|omega|exact Nat.zero_le _
   have o:Hid (A.size<=300):=by show _<=_;first|omega|exact Nat.zero_le _
   clear c;go_wp2;refine bodyPost_ret (v:=.agg #[.int .i64 1,.string l,.string A]) ?_ rfl ⟨1,l,A,rfl,p.out,o.out,n.out⟩;rw[av rfl];go_simp
 .have C:=ak.out 2
  rw[<- a9.out]at C;have aq:∃ w3,w3=Q.alloc (.cells #[.int .i64 2,.string ⟨#[]⟩,.string ⟨#[]⟩] 27):=⟨_,rfl⟩
  obtain⟨w3,a8⟩:=aq;have ab:=hZ a8.symm;rw[<- a8]at C;have Z:=hZ C;clear ak a8;go_upto_region 2 with fail
  rw[ab.out,<- a9.out];clear ab a9;obtain⟨F,G,H,I⟩:=C.box.facts;have E:=C.box.free;clear C;have R3:=D0 _ B b k2 4 Z.out.cur (by omega) (by omega);go_wp2_with fail;refine R3.mono ?_;rintro e w4 ⟨v4,zs,rfl,i4,b9,ar,d⟩;obtain⟨k4,b1,S4⟩:=Z.out.moved d;have EN:=xm (by omega) i4 ar;have aK:=Sr zs;have ao:=hZ S4;clear R3 d Z S4 i4 ar;go_wp2_with fail;refine EN.mono ?_;rintro e w5 ⟨rfl,b5⟩;have S5:=ao.out.below b5;obtain⟨F,G,H,I⟩:=S5.box.facts;have E:=S5.box.free;have aN:(⟨(jw zs).toArray⟩:ByteArray).size<=16:=by show (jw zs).toArray.size<=16;simp;omega
  generalize (⟨(jw zs).toArray⟩:ByteArray)=u at *;have c:Hid (Dd7 w (w5.setCell ⟨pb,1,none⟩ (.string u)) B b k4 w.heap.size pb 2 u ⟨#[]⟩):=S5.setX u;have O6:=uj _ B b k4 c.out.cur (by omega) 2 (by omega) (by omega);clear EN b5 S5 ao aK;go_wp2_with fail;refine O6.mono ?_;rintro e R ⟨bo,rfl,d⟩;obtain⟨D,X,a⟩:=c.out.moved d;have z:=hZ a;clear O6 d c a;go_upto_if 21 with fail
  go_cut [] from 22 to 25 (fun wx=>∃ (P:Nat) (l:ByteArray),P<=D+2/\l.size<=16/\Dd7 w wx B b P w.heap.size pb 2 l ⟨#[]⟩)
  case first =>
   cases bo
   .go_wp2
    go_meet
    case rel=>exact⟨D,u,by omega,aN,z.out⟩
   .have OF:=uh R B b D z.out.cur (by omega) doT 7 rfl (by omega) (by omega) _ rfl
    go_wp2_with fail;refine OF.mono ?_;rintro e w8 ⟨s8,rfl,aw,d⟩;obtain⟨P,aL,f⟩:=z.out.moved d;have b7:=Yj s8 aw;obtain⟨F,G,H,I⟩:=f.box.facts;have E:=f.box.free;have a2:Hid (Dd7 w (w8.setCell ⟨pb,1,none⟩ (.string s8)) B b P w.heap.size pb 2 s8 ⟨#[]⟩):=f.setX s8;clear OF d f z aw;go_wp2;go_meet
    case rel=>exact⟨P,s8,by omega,by omega,a2.out⟩
  case rest =>
   obtain⟨P,l,aL,b8,f⟩:=hcut;have a2:=hZ f;obtain⟨F,G,H,I⟩:=f.box.facts;have E:=f.box.free;obtain⟨w9,rfl⟩:∃ w9,w9=wc:=⟨_,rfl⟩
   clear f z;have P5:=ep w9 B b P a2.out.cur (by omega) 40 (by omega) (by omega);go_wp2_with fail;refine P5.mono ?_;rintro e s ⟨q,rfl,q0,q1,d⟩;obtain⟨W,aV,S6⟩:=a2.out.moved d;have c:=hZ S6;clear P5 d a2 S6;by_cases ac:q=0
   .subst ac
    have M:=ep s B b W c.out.cur (by omega) 2 (by omega) (by omega);go_wp2_with fail;refine M.mono ?_;rintro e R ⟨y,rfl,N,y1,d⟩;obtain⟨D,X,a⟩:=c.out.moved d;clear M d c;obtain⟨y,rfl⟩:=Int.eq_ofNat_of_zero_le N;have hy:y<=1:=by omega
    have ax:=a.cur.lt;have r:¬ pb=w.heap.size:=by have:=a.lb;omega
    have S:¬ w.heap.size=pb:=fun e=>r e.symm
    have z:=hZ a;clear N y1 a;go_wp2_with (at_make;refine wpList_make_full _ rfl _ _ 22 rfl B 5 i0 (.int .u8 0) 1 underlying22 Y al am .i64 .i64 _ _ (60+y) rfl rfl (by omega) (by omega) (by rw[an];omega) (by unfold maxLen;omega) (by omega) ?_;intro w8 K J;have V:=p8 K;have L:=np (List.replicate (60+y) 0);rw[List.length_replicate]at L;generalize ix (List.replicate (60+y) 0)=mk_ at V L;have f:=z.out.below (Below.grown bX J bR (fun j hj=>by cases hj));obtain⟨a6,az,aA,aB⟩:=f.box.facts;have a5:=f.box.free;obtain⟨a4,aC,aD,aE⟩:=f.ans.facts;have a3:=f.ans.free)
    have g:=f.setX mk_;have n:Hid (ed _ _ _ _ _ _):=g.done (k0:=k) (m:=200) (by omega) (.int .i64 2) (.string mk_) (.string ⟨#[]⟩);have p:Hid (mk_.size<=300):=by show _<=_;first|omega|exact Nat.zero_le _
    have o:Hid ((⟨#[]⟩:ByteArray).size<=300):=by show _<=_;first|omega|exact Nat.zero_le _
    clear K J f g;go_wp2;refine bodyPost_ret (v:=.agg #[.int .i64 2,.string mk_,.string ⟨#[]⟩]) ?_ rfl ⟨2,mk_,⟨#[]⟩,rfl,p.out,o.out,n.out⟩;rw[av rfl];go_simp
   by_cases ad:q=1
   .subst ad
    have M:=ep s B b W c.out.cur (by omega) 2 (by omega) (by omega);go_wp2_with fail;refine M.mono ?_;rintro e R ⟨y,rfl,N,y1,d⟩;obtain⟨D,X,a⟩:=c.out.moved d;clear M d c;obtain⟨y,rfl⟩:=Int.eq_ofNat_of_zero_le N;have hy:y<=1:=by omega
    have ax:=a.cur.lt;have r:¬ pb=w.heap.size:=by have:=a.lb;omega
    have S:¬ w.heap.size=pb:=fun e=>r e.symm
    have z:=hZ a;clear N y1 a;go_wp2_with (at_make;refine wpList_make_full _ rfl _ _ 22 rfl B 5 i0 (.int .u8 0) 1 underlying22 Y al am .i64 .i64 _ _ (60+y) rfl rfl (by omega) (by omega) (by rw[an];omega) (by unfold maxLen;omega) (by omega) ?_;intro w8 K J;have V:=p8 K;have L:=np (List.replicate (60+y) 0);rw[List.length_replicate]at L;generalize ix (List.replicate (60+y) 0)=mk_ at V L;have f:=z.out.below (Below.grown bX J bR (fun j hj=>by cases hj));obtain⟨a6,az,aA,aB⟩:=f.box.facts;have a5:=f.box.free;obtain⟨a4,aC,aD,aE⟩:=f.ans.facts;have a3:=f.ans.free)
    have g:=f.setV mk_;have n:Hid (ed _ _ _ _ _ _):=g.done (k0:=k) (m:=200) (by omega) (.int .i64 2) (.string l) (.string mk_);have p:Hid (l.size<=300):=by show _<=_;first|omega|exact Nat.zero_le _
    have o:Hid (mk_.size<=300):=by show _<=_;first|omega|exact Nat.zero_le _
    clear K J f g;go_wp2;refine bodyPost_ret (v:=.agg #[.int .i64 2,.string l,.string mk_]) ?_ rfl ⟨2,l,mk_,rfl,p.out,o.out,n.out⟩;rw[av rfl];go_simp
   have aR:(q == 0)=false:=by simpa using ac
   have aS:(q == 1)=false:=by simpa using ad
   by_cases ae:q=2
   .subst ae
    have O:Below s.heap.size s (s.alloc (.cells #[.int .i64 0,.int .i64 5] 3)):=bY _;have U:=c.out.below O;have hL:=heap_alloc_new s (.cells #[.int .i64 0,.int .i64 5] 3);have ay:=U.cur.lt;have aX:=c.out.cur.lt;have A7:=qj (s.alloc (.cells #[.int .i64 0,.int .i64 5] 3)) B b W U.cur (by omega) s.heap.size 2 2 [0,5] rfl (by omega) (by omega) (by simp) (by omega) (fun j hj=>by rcases (show j=0\/j=1 by omega) with rfl|rfl <;> exact cell_of_row _ _ _ _ _ _ hL);have aa:=hZ U;clear O U hL ay c;go_wp2_with fail;refine A7.mono ?_;rintro e R ⟨T,rfl,a7,d⟩;obtain⟨D,X,a⟩:=aa.out.moved d;obtain⟨F,G,H,I⟩:=a.box.facts;have E:=a.box.free;obtain⟨a1,ag,ah,ai⟩:=a.ans.facts;have a0:=a.ans.free
    have r:¬ pb=w.heap.size:=by have:=a.lb;omega
    have S:¬ w.heap.size=pb:=fun e=>r e.symm
    have g:=a.setN T;have n:Hid (ed _ _ _ _ _ _):=g.done (k0:=k) (m:=200) (by omega) (.int .i64 T) (.string l) (.string ⟨#[]⟩);have p:Hid (l.size<=300):=by show _<=_;first|omega|exact Nat.zero_le _
    have o:Hid ((⟨#[]⟩:ByteArray).size<=300):=by show _<=_;first|omega|exact Nat.zero_le _
    clear A7 d aa a g a7;go_wp2;refine bodyPost_ret (v:=.agg #[.int .i64 T,.string l,.string ⟨#[]⟩]) ?_ rfl ⟨T,l,⟨#[]⟩,rfl,p.out,o.out,n.out⟩;rw[av rfl];go_simp
   have aT:(q == 2)=false:=by simpa using ae
   by_cases af:q=3
   .subst af
    have T7:=Ge s B b W c.out.cur (by omega);go_wp2_with fail;refine T7.mono ?_;rintro e R ⟨u,rfl,aY,d⟩;obtain⟨D,X,a⟩:=c.out.moved d;obtain⟨F,G,H,I⟩:=a.box.facts;have E:=a.box.free;obtain⟨a1,ag,ah,ai⟩:=a.ans.facts;have a0:=a.ans.free;have r:¬ pb=w.heap.size:=by have:=a.lb;omega
    have S:¬ w.heap.size=pb:=fun e=>r e.symm
    have g:=a.setX u;have n:Hid (ed _ _ _ _ _ _):=g.done (k0:=k) (m:=200) (by omega) (.int .i64 2) (.string u) (.string ⟨#[]⟩);have p:Hid (u.size<=300):=by show _<=_;first|omega|exact Nat.zero_le _
    have o:Hid ((⟨#[]⟩:ByteArray).size<=300):=by show _<=_;first|omega|exact Nat.zero_le _
    clear T7 d c a g;go_wp2;refine bodyPost_ret (v:=.agg #[.int .i64 2,.string u,.string ⟨#[]⟩]) ?_ rfl ⟨2,u,⟨#[]⟩,rfl,p.out,o.out,n.out⟩;rw[av rfl];go_simp
   have aU:(q == 3)=false:=by simpa using af
   obtain⟨F,G,H,I⟩:=c.out.box.facts;have E:=c.out.box.free;obtain⟨a1,ag,ah,ai⟩:=c.out.ans.facts;have a0:=c.out.ans.free;have r:¬ pb=w.heap.size:=by have:=c.out.lb;omega
   have S:¬ w.heap.size=pb:=fun e=>r e.symm
   have n:Hid (ed _ _ _ _ _ _):=c.out.done (k0:=k) (m:=200) (by omega) (.int .i64 2) (.string l) (.string ⟨#[]⟩);have p:Hid (l.size<=300):=by show _<=_;first|omega|exact Nat.zero_le _
   have o:Hid ((⟨#[]⟩:ByteArray).size<=300):=by show _<=_;first|omega|exact Nat.zero_le _
   clear c;go_wp2;refine bodyPost_ret (v:=.agg #[.int .i64 2,.string l,.string ⟨#[]⟩]) ?_ rfl ⟨2,l,⟨#[]⟩,rfl,p.out,o.out,n.out⟩;rw[av rfl];go_simp
 .have b2:(t == 1)=false:=by simp;omega
  have b3:(t == 2)=false:=by simp;omega
  clear aG;have C:=ak.out t;rw[<- a9.out]at C;have aq:∃ w3,w3=Q.alloc (.cells #[.int .i64 t,.string ⟨#[]⟩,.string ⟨#[]⟩] 27):=⟨_,rfl⟩
  obtain⟨w3,a8⟩:=aq;have ab:=hZ a8.symm;rw[<- a8]at C;have Z:=hZ C;clear ak a8;go_upto_region 2 with fail
  rw[ab.out,<- a9.out];clear ab a9;obtain⟨F,G,H,I⟩:=C.box.facts;have E:=C.box.free;clear C;have P5:=ep w3 B b k2 Z.out.cur (by omega) 40 (by omega) (by omega);go_wp2_with fail;refine P5.mono ?_;rintro e s ⟨q,rfl,q0,q1,d⟩;obtain⟨W,aV,S6⟩:=Z.out.moved d;have c:=hZ S6;clear P5 d Z S6;by_cases ac:q=0
  .subst ac
   have M:=ep s B b W c.out.cur (by omega) 2 (by omega) (by omega);go_wp2_with fail;refine M.mono ?_;rintro e R ⟨y,rfl,N,y1,d⟩;obtain⟨D,X,a⟩:=c.out.moved d;clear M d c;obtain⟨y,rfl⟩:=Int.eq_ofNat_of_zero_le N;have hy:y<=1:=by omega
   have ax:=a.cur.lt;have r:¬ pb=w.heap.size:=by have:=a.lb;omega
   have S:¬ w.heap.size=pb:=fun e=>r e.symm
   have z:=hZ a;clear N y1 a;go_wp2_with (at_make;refine wpList_make_full _ rfl _ _ 22 rfl B 5 i0 (.int .u8 0) 1 underlying22 Y al am .i64 .i64 _ _ (60+y) rfl rfl (by omega) (by omega) (by rw[an];omega) (by unfold maxLen;omega) (by omega) ?_;intro w8 K J;have V:=p8 K;have L:=np (List.replicate (60+y) 0);rw[List.length_replicate]at L;generalize ix (List.replicate (60+y) 0)=mk_ at V L;have f:=z.out.below (Below.grown bX J bR (fun j hj=>by cases hj));obtain⟨a6,az,aA,aB⟩:=f.box.facts;have a5:=f.box.free;obtain⟨a4,aC,aD,aE⟩:=f.ans.facts;have a3:=f.ans.free)
   have g:=f.setX mk_;have n:Hid (ed _ _ _ _ _ _):=g.done (k0:=k) (m:=200) (by omega) (.int .i64 t) (.string mk_) (.string ⟨#[]⟩);have p:Hid (mk_.size<=300):=by show _<=_;first|omega|exact Nat.zero_le _
   have o:Hid ((⟨#[]⟩:ByteArray).size<=300):=by show _<=_;first|omega|exact Nat.zero_le _
   clear K J f g;go_wp2;refine bodyPost_ret (v:=.agg #[.int .i64 t,.string mk_,.string ⟨#[]⟩]) ?_ rfl ⟨t,mk_,⟨#[]⟩,rfl,p.out,o.out,n.out⟩;rw[av rfl];go_simp
  by_cases ad:q=1
  .subst ad
   have M:=ep s B b W c.out.cur (by omega) 2 (by omega) (by omega);go_wp2_with fail;refine M.mono ?_;rintro e R ⟨y,rfl,N,y1,d⟩;obtain⟨D,X,a⟩:=c.out.moved d;clear M d c;obtain⟨y,rfl⟩:=Int.eq_ofNat_of_zero_le N;have hy:y<=1:=by omega
   have ax:=a.cur.lt;have r:¬ pb=w.heap.size:=by have:=a.lb;omega
   have S:¬ w.heap.size=pb:=fun e=>r e.symm
   have z:=hZ a;clear N y1 a;go_wp2_with (at_make;refine wpList_make_full _ rfl _ _ 22 rfl B 5 i0 (.int .u8 0) 1 underlying22 Y al am .i64 .i64 _ _ (60+y) rfl rfl (by omega) (by omega) (by rw[an];omega) (by unfold maxLen;omega) (by omega) ?_;intro w8 K J;have V:=p8 K;have L:=np (List.replicate (60+y) 0);rw[List.length_replicate]at L;generalize ix (List.replicate (60+y) 0)=mk_ at V L;have f:=z.out.below (Below.grown bX J bR (fun j hj=>by cases hj));obtain⟨a6,az,aA,aB⟩:=f.box.facts;have a5:=f.box.free;obtain⟨a4,aC,aD,aE⟩:=f.ans.facts;have a3:=f.ans.free)
   have g:=f.setV mk_;have n:Hid (ed _ _ _ _ _ _):=g.done (k0:=k) (m:=200) (by omega) (.int .i64 t) (.string ⟨#[]⟩) (.string mk_);have p:Hid ((⟨#[]⟩:ByteArray).size<=300):=by show _<=_;first|omega|exact Nat.zero_le _
   have o:Hid (mk_.size<=300):=by show _<=_;first|omega|exact Nat.zero_le _
   clear K J f g;go_wp2;refine bodyPost_ret (v:=.agg #[.int .i64 t,.string ⟨#[]⟩,.string mk_]) ?_ rfl ⟨t,⟨#[]⟩,mk_,rfl,p.out,o.out,n.out⟩;rw[av rfl];go_simp
  have aR:(q == 0)=false:=by simpa using ac
  have aS:(q == 1)=false:=by simpa using ad
  by_cases ae:q=2
  .subst ae
   have O:Below s.heap.size s (s.alloc (.cells #[.int .i64 0,.int .i64 5] 3)):=bY _;have U:=c.out.below O;have hL:=heap_alloc_new s (.cells #[.int .i64 0,.int .i64 5] 3);have ay:=U.cur.lt;have aX:=c.out.cur.lt;have A7:=qj (s.alloc (.cells #[.int .i64 0,.int .i64 5] 3)) B b W U.cur (by omega) s.heap.size 2 2 [0,5] rfl (by omega) (by omega) (by simp) (by omega) (fun j hj=>by rcases (show j=0\/j=1 by omega) with rfl|rfl <;> exact cell_of_row _ _ _ _ _ _ hL);have aa:=hZ U;clear O U hL ay c;go_wp2_with fail;refine A7.mono ?_;rintro e R ⟨T,rfl,a7,d⟩;obtain⟨D,X,a⟩:=aa.out.moved d;obtain⟨F,G,H,I⟩:=a.box.facts;have E:=a.box.free;obtain⟨a1,ag,ah,ai⟩:=a.ans.facts;have a0:=a.ans.free
   have r:¬ pb=w.heap.size:=by have:=a.lb;omega
   have S:¬ w.heap.size=pb:=fun e=>r e.symm
   have g:=a.setN T;have n:Hid (ed _ _ _ _ _ _):=g.done (k0:=k) (m:=200) (by omega) (.int .i64 T) (.string ⟨#[]⟩) (.string ⟨#[]⟩);have p:Hid ((⟨#[]⟩:ByteArray).size<=300):=by show _<=_;first|omega|exact Nat.zero_le _
   have o:Hid ((⟨#[]⟩:ByteArray).size<=300):=by show _<=_;first|omega|exact Nat.zero_le _
   clear A7 d aa a g a7;go_wp2;refine bodyPost_ret (v:=.agg #[.int .i64 T,.string ⟨#[]⟩,.string ⟨#[]⟩]) ?_ rfl ⟨T,⟨#[]⟩,⟨#[]⟩,rfl,p.out,o.out,n.out⟩;rw[av rfl];go_simp
  have aT:(q == 2)=false:=by simpa using ae
  by_cases af:q=3
  .subst af
   have T7:=Ge s B b W c.out.cur (by omega);go_wp2_with fail;refine T7.mono ?_;rintro e R ⟨u,rfl,aY,d⟩;obtain⟨D,X,a⟩:=c.out.moved d;obtain⟨F,G,H,I⟩:=a.box.facts;have E:=a.box.free;obtain⟨a1,ag,ah,ai⟩:=a.ans.facts;have a0:=a.ans.free;have r:¬ pb=w.heap.size:=by have:=a.lb;omega
   have S:¬ w.heap.size=pb:=fun e=>r e.symm
   have g:=a.setX u;have n:Hid (ed _ _ _ _ _ _):=g.done (k0:=k) (m:=200) (by omega) (.int .i64 t) (.string u) (.string ⟨#[]⟩);have p:Hid (u.size<=300):=by show _<=_;first|omega|exact Nat.zero_le _
   have o:Hid ((⟨#[]⟩:ByteArray).size<=300):=by show _<=_;first|omega|exact Nat.zero_le _
   clear T7 d c a g;go_wp2;refine bodyPost_ret (v:=.agg #[.int .i64 t,.string u,.string ⟨#[]⟩]) ?_ rfl ⟨t,u,⟨#[]⟩,rfl,p.out,o.out,n.out⟩;rw[av rfl];go_simp
  have aU:(q == 3)=false:=by simpa using af
  obtain⟨F,G,H,I⟩:=c.out.box.facts;have E:=c.out.box.free;obtain⟨a1,ag,ah,ai⟩:=c.out.ans.facts;have a0:=c.out.ans.free;have r:¬ pb=w.heap.size:=by have:=c.out.lb;omega
  have S:¬ w.heap.size=pb:=fun e=>r e.symm
  have n:Hid (ed _ _ _ _ _ _):=c.out.done (k0:=k) (m:=200) (by omega) (.int .i64 t) (.string ⟨#[]⟩) (.string ⟨#[]⟩);have p:Hid ((⟨#[]⟩:ByteArray).size<=300):=by show _<=_;first|omega|exact Nat.zero_le _
  have o:Hid ((⟨#[]⟩:ByteArray).size<=300):=by show _<=_;first|omega|exact Nat.zero_le _
  clear c;go_wp2;refine bodyPost_ret (v:=.agg #[.int .i64 t,.string ⟨#[]⟩,.string ⟨#[]⟩]) ?_ rfl ⟨t,⟨#[]⟩,⟨#[]⟩,rfl,p.out,o.out,n.out⟩;rw[av rfl];go_simp
theorem J3 {w:World} {B b e size n:Nat} {v:Value} {xs:List Value}(h:w.ownsRow B e size v n xs) (a:b<B):v.ownBlock=none\/v.ownBlock≠some b:=by
 cases c:v.ownBlock with
 | none=>exact .inl rfl
 | some g =>
  refine .inr fun e=>?_
  have:=(World.ownsRow.lt h g c).1;have:=Option.some.inj e;omega
structure Di7 (w u:World) (B b k pa pb:Nat) (vp:Value) (d:Ds7):Prop where
 cur:Cur u B b k
 ans:ba u pa ⟨#[]⟩ (.slice none 0 0) ⟨#[]⟩ 0
 box:ba u pb d.r vp d.log d.syn
 pages:ak u w.heap.size vp d.ss
 ok:Ok7 d
 lg:Lg7 d
 gr:w.grownBy u (some b)
 la:B<=pa
 lw:w.heap.size<=pa
 lb:pa<pb
theorem Di7.moved {w u u':World} {B b k c pb m:Nat} {e:Value} {d:Ds7}(h:Di7 w u B b k c pb e d) (f:b<w.heap.size) (j:ed u u' B b k m):∃ a,a<=k+m/\Di7 w u' B b a c pb e d:=by
 obtain⟨⟨a,l,i⟩,g⟩:=j;have p:=h.cur.lt;have n:=h.la;have o:=h.lb;exact⟨a,l,i,em g (by omega) h.ans,em g (by omega) h.box,World.ownsRow.kept h.pages g (J3 h.pages f),h.ok,h.lg,bu h.gr g,h.la,h.lw,h.lb⟩
theorem Di7.below {w u u':World} {B b k c pb:Nat} {e:Value} {d:Ds7}(h:Di7 w u B b k c pb e d) (a:Below u.heap.size u u'):Di7 w u' B b k c pb e d :=
 have g:u.grownBy u' none:=⟨a.os,a.tape,a.output,a.size,fun i hi _=>a.block i hi⟩;⟨h.cur.kept g (fun _ hj=>by cases hj),h.ans.below a,h.box.below a,h.pages.below a,h.ok,h.lg,fd h.gr g (fun _ hj=>by cases hj),h.la,h.lw,h.lb⟩
theorem Di7.grew {w u u':World} {B b k c pb:Nat} {m a:Value} {d d':Ds7}(h:Di7 w u B b k c pb m d) (g:u.grownBy u' (some pb)) (e:ba u' pb d'.r a d'.log d'.syn) (l:ak u' w.heap.size a d'.ss) (i:Ok7 d') (f:Lg7 d'):Di7 w u' B b k c pb a d' :=
 have n:=h.la;have o:=h.lb;have p:=h.lw;⟨h.cur.kept g (fun j hj=>by have:=Option.some.inj hj;omega),em g (by omega) h.ans,e,l,i,f,fd h.gr g (fun j hj=>by have:=Option.some.inj hj;omega),h.la,h.lw,h.lb⟩
theorem Di7.put {w u:World} {B b k c pb:Nat} {j a:Value} {d d':Ds7}(h:Di7 w u B b k c pb j d) (i:ak u w.heap.size a d'.ss) (f:Ok7 d') (e:Lg7 d'):Di7 w (s4D u pb (.string d'.r) a (.string d'.log) (.int .i64 d'.syn)) B b k c pb a d' :=
 have g:=lu u pb (.string d'.r) a (.string d'.log) (.int .i64 d'.syn);h.grew g (Iu h.box _ _ _ _) (i.box h.box (by decide) g) f e
theorem zq {w u:World} {B b k a k0 m:Nat} {e:Value} {ss:List ByteArray}(h:Cur u B b k) (f:ba u a ⟨#[]⟩ (.slice none 0 0) ⟨#[]⟩ 0) (n:ak u w.heap.size e ss) (i:w.grownBy u (some b)) (o:B<=a) (p:w.heap.size<=a) (l:k<=k0+m) (c d a3 a4:Value) :
  ak (s4D u a c d a3 a4) w.heap.size e ss/\ed w (s4D u a c d a3 a4) B b k0 m :=
 have g:=lu u a c d a3 a4;⟨n.box f (by decide) g,⟨k,l,h.kept g (fun j hj=>by have:=Option.some.inj hj;omega)⟩,fd i g (fun j hj=>by have:=Option.some.inj hj;omega)⟩
def IxR (w:World) (B b K pa pb:Nat) (vp:Value) (d:Ds7) (v6 v7:Value) (wx:World):Prop :=
 ∃ (q k':Nat) (cde:Int) (vp':Value) (d':Ds7),v6=.pointer (some ⟨q,0,none⟩)/\v7=.int .i64 cde/\ba wx q d'.r vp' d'.log d'.syn/\ak wx w.heap.size vp' d'.ss/\Ok7 d'/\Lg7 d'/\k'<=K+200/\q≠pb/\pa<q/\Di7 w wx B b k' pa pb vp d
theorem Sy {w u:World} {B b K f i pb q:Nat} {l a:Value} {d d':Ds7} {cde:Int}(c:ba u q ⟨#[]⟩ (.slice none 0 0) ⟨#[]⟩ 0) (s:ak u w.heap.size a d'.ss) (p:Ok7 d') (o:Lg7 d') (n:f<=K+200) (k:q≠pb) (m:i<q) (h:Di7 w u B b f i pb l d) :
  IxR w B b K i pb l d (.pointer (some ⟨q,0,none⟩)) (.int .i64 cde) (s4D u q (.string d'.r) a (.string d'.log) (.int .i64 d'.syn)) :=
 have g:=lu u q (.string d'.r) a (.string d'.log) (.int .i64 d'.syn);have t:=h.la;have v:=h.lb;have x:=h.lw;⟨q,f,cde,a,d',rfl,rfl,Iu c _ _ _ _,s.box c (by decide) g,p,o,n,k,m,h.cur.kept g (fun j hj=>by have:=Option.some.inj hj;omega),em g (by omega) h.ans,em g (fun e=>k e.symm) h.box,h.pages.box c (by decide) g,h.ok,h.lg,fd h.gr g (fun j hj=>by have:=Option.some.inj hj;omega),h.la,h.lw,h.lb⟩
theorem an8 {w u:World} {B b K c e pb:Nat} {f a:Value} {d d':Ds7} {cde:Int}(l:ak u w.heap.size a d'.ss) (k:Ok7 d') (j:Lg7 d') (i:c<=K+200) (h:Di7 w u B b c e pb f d) :
  IxR w B b K e pb f d (.pointer (some ⟨u.heap.size,0,none⟩)) (.int .i64 cde) (u.alloc (.cells #[.string d'.r,a,.string d'.log,.int .i64 d'.syn] 25)) :=
 have b:=(Below.refl u.heap.size u).alloc bR (.cells #[.string d'.r,a,.string d'.log,.int .i64 d'.syn] 25);have m:=h.box.lt;have g:=h.ans.lt;⟨u.heap.size,c,cde,a,d',rfl,rfl,ba.new u _ _ _ _,l.below b,k,j,i,by omega,g,h.below b⟩
def aj6 (w:World) (B b K pa pb:Nat) (v5:Value) (wr:World):Prop :=
 ∃ (n k':Nat) (vp:Value) (d:Ds7),v5=.int .i64 (n:Int)/\n<=50/\k'+200*n<=K/\Di7 w wr B b k' pa pb vp d
def ixL:List ByteArray:=[⟨#[120]⟩,⟨#[91,108,101,118,101,108,115,32,52,93]⟩,⟨#[38,32,97,32,60,32,98]⟩]
theorem au3:∀ s ∈ ixL,s.size<=10:=by decide
theorem ao8 {s:ByteArray}(h:s.size<=300):(Co s).size<=300:=by
 unfold Co;split
 .exact h
 .exact Nat.zero_le _
theorem a02 {r:ByteArray}(h:r.size<=300):Ok7 ⟨r,[],⟨#[]⟩,0⟩:=⟨by show r.size<=_;omega,Nat.zero_le _,fun s hs=>(by cases hs),Pb,Nat.zero_le _⟩
theorem U3 (w:World) (B b k:Nat) (h:Cur w B b k) (hk:k<=400000000) :
  Calls prog 27 #[.pointer (some ⟨b,0,none⟩)] w fun e w'=>∃ (d:Ds7) (vp:Value),e=.returned (.agg #[.string d.r,vp,.string d.log,.int .i64 d.syn])/\ak w' w.heap.size vp d.ss/\Ok7 d/\ed w w' B b k 20000:=by
 have aP:=h.lt;have W:b<w.heap.size:=by omega
 have bA:Below w.heap.size w (w.alloc (.cells #[.string ⟨#[]⟩,.slice none 0 0,.string ⟨#[]⟩,.int .i64 0] 25)):=bY _;have gA:w.grownBy (w.alloc (.cells #[.string ⟨#[]⟩,.slice none 0 0,.string ⟨#[]⟩,.int .i64 0] 25)) none:=⟨bA.os,bA.tape,bA.output,bA.size,fun i hi _=>bA.block i hi⟩;have RT:=Oq (w.alloc (.cells #[.string ⟨#[]⟩,.slice none 0 0,.string ⟨#[]⟩,.int .i64 0] 25)) B b k (h.kept gA (fun _ hj=>by cases hj)) (by omega);have az:Hid (ba (w.alloc (.cells #[.string ⟨#[]⟩,.slice none 0 0,.string ⟨#[]⟩,.int .i64 0] 25)) w.heap.size ⟨#[]⟩ (.slice none 0 0) ⟨#[]⟩ 0):=ba.new w _ _ _ _;have V:=hZ gA;clear h bA gA;go_enter func27,ntmps27;go_wp2_with fail;refine RT.mono ?_;rintro e w1 ⟨s,rfl,hs,⟨k1,bU,aJ⟩,Z⟩
 have aH:w.grownBy w1 (some b):=⟨Z.os.trans V.out.os,Z.tape.trans V.out.tape,Z.output.trans V.out.output,Nat.le_trans V.out.size Z.size,fun i hi hn=>(Z.block i (Nat.lt_of_lt_of_le hi V.out.size) hn).trans (V.out.block i hi (by simp))⟩;have aI:ba w1 w.heap.size ⟨#[]⟩ (.slice none 0 0) ⟨#[]⟩ 0:=em Z (by omega) az.out;have NW:=ad3 w1 s (by omega);have ay:=hZ aI;have aA:=hZ aJ;have aB:=hZ aH;have aV:=ao8 hs;generalize Co s=r at *;clear RT az V aJ Z aH aI;go_wp2_with fail;refine NW.mono ?_;rintro e w2 ⟨bo,rfl,X⟩;have g2:w1.grownBy w2 none:=⟨X.os,X.tape,X.output,X.size,fun i hi _=>X.block i hi⟩;have aK:=aA.out.kept g2 (fun _ hj=>by cases hj);have ai:=ay.out.below X;have aN:=fd aB.out g2 (fun _ hj=>by cases hj)
 obtain⟨pb,a6⟩:∃ pb,pb=w2.heap.size:=⟨_,rfl⟩
 obtain⟨w3,a8⟩:∃ w3,w3=w2.alloc (.cells #[.string r,.slice none 0 0,.string ⟨#[]⟩,.int .i64 0] 25):=⟨_,rfl⟩
 have Y:Below w2.heap.size w2 w3:=by rw[a8];exact bY _
 have g3:w2.grownBy w3 none:=⟨Y.os,Y.tape,Y.output,Y.size,fun i hi _=>Y.block i hi⟩;have S3:Di7 w w3 B b k1 w.heap.size pb (.slice none 0 0) ⟨r,[],⟨#[]⟩,0⟩:=⟨aK.kept g3 (fun _ hj=>by cases hj),ai.below Y,by rw[a6,a8];exact heap_alloc_new w2 _,ez _ _,a02 aV,⟨Nat.zero_le _,Nat.zero_le _⟩,fd aN g3 (fun _ hj=>by cases hj),aP.2,bR,by rw[a6];exact ai.lt⟩;have ag:=hZ S3;have aG:=hZ a8.symm;have aD:=hZ a6.symm;clear NW g2 aK ai aN X Y g3 a8 a6 ay aA aB;go_upto_if 15 with fail
 rw[aG.out,aD.out];clear aG aD;obtain⟨E,F,G,H,I,J⟩:=S3.box.facts;clear S3;go_cut [] from 9 to 20 (fun wx=>∃ r',r'.size<=300/\Di7 w wx B b k1 w.heap.size pb (.slice none 0 0) ⟨r',[],⟨#[]⟩,0⟩)
 case first =>
  cases bo
  .have a5:Hid (Di7 w _ B b k1 w.heap.size pb (.slice none 0 0) ⟨⟨#[]⟩,[],⟨#[]⟩,0⟩):=ag.out.put (d':=⟨⟨#[]⟩,[],⟨#[]⟩,0⟩) (ez _ _) (a02 (Nat.zero_le _)) ⟨Nat.zero_le _,Nat.zero_le _⟩
   go_wp2;go_meet
   case rel=>exact⟨⟨#[]⟩,Nat.zero_le _,a5.out⟩
  .go_wp2
   go_meet
   case rel=>exact⟨r,aV,ag.out⟩
 case rest =>
  obtain⟨r',c6,S4⟩:=hcut;obtain⟨w4,rfl⟩:∃ w4,w4=wc:=⟨_,rfl⟩
  have a5:=hZ S4;have P5:=ep w4 B b k1 S4.cur (by omega) 12 (by omega) (by omega);clear S4 ag F G H I J E;go_wp2_with fail;refine P5.mono ?_;rintro e w5 ⟨n0,rfl,aW,bw,g⟩;obtain⟨n0,rfl⟩:=Int.eq_ofNat_of_zero_le aW;obtain⟨k5,bV,S5⟩:=a5.out.moved W g;have aE:=hZ S5;have O6:=uj w5 B b k5 S5.cur (by omega) 12 (by omega) (by omega);have c1:n0<=11:=by omega
  clear P5 g a5 S5 aW bw;go_wp2_with fail;refine O6.mono ?_;rintro e w6 ⟨b6,rfl,g⟩;obtain⟨k6,bW,S6⟩:=aE.out.moved W g;have aF:=hZ S6;clear O6 g aE S6;go_upto_if 20 with fail
  go_cut [5] from 9 to 20 (fun v5 wx=>∃ n:Nat,v5=.int .i64 (n:Int)/\n<=50/\wx=w6)
  case first =>
   cases b6
   .go_wp2
    go_meet
    case rel=>exact⟨n0,rfl,by omega,rfl⟩
   .go_wp2
    go_meet
    case rel=>exact⟨50,rfl,by omega,rfl⟩
  case rest =>
   obtain⟨n,bp,ao,aw⟩:=hcut;subst bp;replace aw:=aw.symm;subst aw;have af:Hid (aj6 w B b (k6+200*50) w.heap.size pb (.int .i64 (n:Int)) w6):=⟨n,k6,_,_,rfl,ao,by omega,aF.out⟩;clear aF;go_wp2_with fail;go_loopw [5] (fun v5 wr=>aj6 w B b (k6+200*50) w.heap.size pb v5 wr) (fun v5 _=>(intOf v5).toNat)
   case atStart=>exact af.out
   case round =>
    obtain⟨m,k7,vp,d,rfl,bi,bZ,L⟩:=hrel;obtain⟨p,t,bt⟩:=ip L.pages;subst bt;by_cases hm:0<m
    .have bj:(0:Int)<(m:Int):=by omega
     obtain⟨w7,cc⟩:∃ w7,w7=wr:=⟨_,rfl⟩
     have a1:=hZ L;have aX:Hid (∀ u,Below wr.heap.size wr u->Calls prog 28 #[.pointer (some ⟨b,0,none⟩)] u fun e w'=>∃ (U:Int) (x v:ByteArray),e=.returned (.agg #[.int .i64 U,.string x,.string v])/\x.size<=300/\v.size<=300/\ed u w' B b k7 200):=fun u hu=>Io u B b k7 (a1.out.below hu).cur (by omega)
     obtain⟨bf,bx,bB,bD,bF,bH⟩:=L.box.facts;have cd:w.heap.size<wr.heap.size:=L.ans.lt;have c3:pb<wr.heap.size:=L.box.lt;have bN:=L.cur.lt;clear L af;go_upto_region 9 with fail
     go_cut [6,7] from 21 to 34 (fun v6 v7 wx=>IxR w B b k7 w.heap.size pb (.slice p d.ss.length t) d v6 v7 wx)
     case first =>
      go_region_law (go_simp;first|(go_at_call 28;refine (aX.out _ (by repeat (first|with_reducible exact bX|with_reducible refine Below.drew ?_|with_reducible refine Below.alloc ?_ bR _))).mono ?_;rintro e f ⟨U,x,v,rfl,ce,cb,g⟩;obtain⟨k8,a4,C⟩:=Di7.moved (a1.out.below (by repeat (first|with_reducible exact bX|with_reducible refine Below.drew ?_|with_reducible refine Below.alloc ?_ bR _))) W g;have c:=hZ C;have bu:w.heap.size<f.heap.size:=C.ans.lt;have bk:pb<f.heap.size:=C.box.lt;have c7:wr.heap.size<=f.heap.size:=(by first|exact g.2.size|exact Nat.le_trans (Nat.le_of_lt (by simp)) g.2.size);obtain⟨bg,bz,bC,bE,bG,bI⟩:=C.box.facts;(try (have x8:ba f wr.heap.size ⟨#[]⟩ (.slice none 0 0) ⟨#[]⟩ 0:=em (u:=wr.alloc (.cells #[.string ⟨#[]⟩,.slice none 0 0,.string ⟨#[]⟩,.int .i64 0] 25)) ⟨g.2.os,g.2.tape,g.2.output,g.2.size,g.2.block⟩ (by omega) (ba.new wr _ _ _ _);obtain⟨cf,aY,b1,b7,bc,bJ⟩:=x8.facts));clear C g)|(go_at_call 8;refine (am5 (d:=d) U x v (by omega) (by omega) (⟨c.out.pages.below (by repeat (first|with_reducible exact bX|with_reducible refine Below.drew ?_|with_reducible refine Below.alloc ?_ bR _)),c.out.ok⟩:Dk7 _ w.heap.size (.slice p d.ss.length t) d)).mono ?_;rintro e w9 ⟨vq,rfl,s9,y⟩;obtain⟨aq,cq,au⟩:=ip s9;subst au;have ax:Below f.heap.size f w9:=(by first|exact⟨y.os,y.tape,y.output,y.size,y.block⟩|exact ((Below.refl f.heap.size f).alloc bR (.cells #[.string ⟨#[]⟩,.slice none 0 0,.string ⟨#[]⟩,.int .i64 0] 25)).trans (Below.mono (B:=(f.alloc (.cells #[.string ⟨#[]⟩,.slice none 0 0,.string ⟨#[]⟩,.int .i64 0] 25)).heap.size) (w:=f.alloc (.cells #[.string ⟨#[]⟩,.slice none 0 0,.string ⟨#[]⟩,.int .i64 0] 25)) ⟨y.os,y.tape,y.output,y.size,y.block⟩ (by simp)));have a:=c.out.below ax;have t9:ak w9 w.heap.size (.slice aq (do7 d U x v).2.ss.length cq) (do7 d U x v).2.ss:=kq s9 (by first|omega|(simp;omega));have o9:=as9 c.out.ok U x v;have l9:=as8 c.out.lg U x v;(try (have x9:ba w9 wr.heap.size ⟨#[]⟩ (.slice none 0 0) ⟨#[]⟩ 0:=x8.below ax;obtain⟨cg,aZ,b4,b8,bd,bK⟩:=x9.facts));(try (have y9:ba w9 f.heap.size ⟨#[]⟩ (.slice none 0 0) ⟨#[]⟩ 0:=(ba.new f ⟨#[]⟩ (.slice none 0 0) ⟨#[]⟩ 0).below ⟨y.os,y.tape,y.output,y.size,y.block⟩;obtain⟨ch,b0,b5,bb,be,bM⟩:=y9.facts));generalize do7 d U x v=P at *;obtain⟨cde,D⟩:=P;clear s9 y))
      all_goals
       have bv:=ax.size;go_wp2_with fail;go_meet
       case rel=>first
        | (
          have R:=Sy (K:=k7) (cde:=cde) x9 t9 o9 l9 a4 (show wr.heap.size≠pb by omega) (show w.heap.size<wr.heap.size by omega) a;unfold s4D at R;exact R)
        | (
          have R:=Sy (K:=k7) (cde:=cde) y9 t9 o9 l9 a4 (show f.heap.size≠pb by omega) (show w.heap.size<f.heap.size by omega) a;unfold s4D at R;exact R)
        | exact an8 (K:=k7) (cde:=cde) t9 o9 l9 a4 a
     case rest =>
      obtain⟨q,k8,cde,cn,d',bq,br,am,a7,ar,an,a4,c4,c5,C⟩:=hcut;subst bq;subst br;obtain⟨aq,cq,au⟩:=ip a7;subst au;obtain⟨E,F,G,H,I,J⟩:=C.box.facts;obtain⟨bl,ci,cj,ck,cl,cm⟩:=am.facts;by_cases hc:cde=0
      .subst hc
       have ah:Hid (Di7 w _ B b k8 w.heap.size pb _ d'):=C.put a7 ar an;clear C am a7 ar an;go_wp2;exact⟨⟨m-1,k8,_,d',by go_num,by omega,by omega,ah.out⟩,by simp[intOf];omega⟩
      .have bT:(cde == 0)=false:=by simpa using hc
       have ah:=hZ C;clear C am a7 ar an hc;go_wp2;exact⟨⟨m-1,k8,_,d,by go_num,by omega,by omega,ah.out⟩,by simp[intOf];omega⟩
    .have bj:¬ (0:Int)<(m:Int):=by omega
     obtain⟨w7,rfl⟩:∃ w7,w7=wr:=⟨_,rfl⟩
     have a1:=hZ L;have P8:=ep w7 B b k7 L.cur (by omega) 40 (by omega) (by omega);clear L af;go_wp2_with fail;refine P8.mono ?_;rintro e f ⟨q,rfl,q0,q1,g⟩;obtain⟨k8,a4,C⟩:=a1.out.moved W g;have c:=hZ C;clear P8 g a1 C;by_cases aQ:q=0
     .subst aQ
      have SP:=Ie f B b k8 c.out.cur (by omega) d.log ⟨#[112,100,1,46]⟩ (by have:=c.out.lg.1;omega) (by decide) (by decide);obtain⟨E,F,G,H,I,J⟩:=c.out.box.facts;go_wp2_with fail;refine SP.mono ?_;rintro e w9 ⟨lg,rfl,c0,g⟩;obtain⟨k9,aO,a⟩:=c.out.moved W g;obtain⟨E,F,G,H,I,J⟩:=a.box.facts;obtain⟨a0,aa,ab,ac,ad,ae⟩:=a.ans.facts;have S:¬ pb=w.heap.size:=by have:=a.lb;omega
      have T:¬ w.heap.size=pb:=fun e=>S e.symm
      have o:=dq w9 pb 2 (.string lg);have O:Hid (Ok7 { d with log:=lg }):=⟨a.ok.rules,a.ok.pages,a.ok.page,a.ok.side,by have:=a.lg.1;show lg.size<=_;omega⟩;obtain⟨z,A⟩:=zq (k0:=k) (m:=20000) (a.cur.kept o (fun j hj=>by have:=Option.some.inj hj;have:=a.la;have:=a.lb;omega)) (em o T a.ans) (a.pages.box a.box (by decide) o) (fd a.gr o (fun j hj=>by have:=Option.some.inj hj;have:=a.lw;have:=a.lb;omega)) a.la a.lw (by omega) (.string d.r) (.slice p d.ss.length t) (.string lg) (.int .i64 d.syn);have Q:Hid (ak _ _ _ _):=z;have N:Hid (ed _ _ _ _ _ _):=A;clear SP g c a o z A;go_wp2;refine bodyPost_ret (v:=.agg #[.string d.r,(.slice p d.ss.length t),.string lg,.int .i64 d.syn]) ?_ rfl ⟨{ d with log:=lg },(.slice p d.ss.length t),rfl,Q.out,O.out,N.out⟩;rw[av rfl];go_simp
     by_cases aR:q=1
     .subst aR
      obtain⟨E,F,G,H,I,J⟩:=c.out.box.facts;have bh:=c.out.lg.1;have bL:Below f.heap.size f (f.alloc (.cells #[.int .i64 (-1),.int .i64 ((d.log.size:Int)+1)] 3)):=bY _;have SL:=c.out.below bL;have hL:=heap_alloc_new f (.cells #[.int .i64 (-1),.int .i64 ((d.log.size:Int)+1)] 3);have bm:=SL.cur.lt;have ca:=c.out.cur.lt;have A9:=qj (f.alloc (.cells #[.int .i64 (-1),.int .i64 ((d.log.size:Int)+1)] 3)) B b k8 SL.cur (by omega) f.heap.size 2 2 [-1,(d.log.size:Int)+1] rfl (by omega) (by omega) (by simp) (by omega) (fun j hj=>by rcases (show j=0\/j=1 by omega) with rfl|rfl <;> exact cell_of_row _ _ _ _ _ _ hL);have l:Hid (Di7 w _ B b k8 w.heap.size pb (.slice p d.ss.length t) d):=SL;clear bL SL hL bm;go_wp2_with fail;refine A9.mono ?_;rintro e w9 ⟨sy,rfl,bn,g⟩;obtain⟨k9,aO,a⟩:=l.out.moved W g
      obtain⟨E,F,G,H,I,J⟩:=a.box.facts;obtain⟨a0,aa,ab,ac,ad,ae⟩:=a.ans.facts;have S:¬ pb=w.heap.size:=by have:=a.lb;omega
      have T:¬ w.heap.size=pb:=fun e=>S e.symm
      have o:=dq w9 pb 3 (.int .i64 sy);have O:Hid (Ok7 { d with syn:=sy }):=⟨a.ok.rules,a.ok.pages,a.ok.page,a.ok.side,a.ok.log⟩;obtain⟨z,A⟩:=zq (k0:=k) (m:=20000) (a.cur.kept o (fun j hj=>by have:=Option.some.inj hj;have:=a.la;have:=a.lb;omega)) (em o T a.ans) (a.pages.box a.box (by decide) o) (fd a.gr o (fun j hj=>by have:=Option.some.inj hj;have:=a.lw;have:=a.lb;omega)) a.la a.lw (by omega) (.string d.r) (.slice p d.ss.length t) (.string d.log) (.int .i64 sy);have Q:Hid (ak _ _ _ _):=z;have N:Hid (ed _ _ _ _ _ _):=A;clear A9 g c l a o z A bn;go_wp2;refine bodyPost_ret (v:=.agg #[.string d.r,(.slice p d.ss.length t),.string d.log,.int .i64 sy]) ?_ rfl ⟨{ d with syn:=sy },(.slice p d.ss.length t),rfl,Q.out,O.out,N.out⟩;rw[av rfl];go_simp
     have bO:(q == 0)=false:=by simpa using aQ
     have bP:(q == 1)=false:=by simpa using aR
     by_cases aS:q=2
     .subst aS
      have OF:=uh f B b k8 c.out.cur (by omega) ixL 3 rfl (by omega) (by omega) _ rfl;go_wp2_with fail;refine OF.mono ?_;rintro e w9 ⟨rr,rfl,aU,g⟩;obtain⟨k9,aO,a⟩:=c.out.moved W g;have c8:=au3 rr aU;obtain⟨E,F,G,H,I,J⟩:=a.box.facts;obtain⟨a0,aa,ab,ac,ad,ae⟩:=a.ans.facts;have S:¬ pb=w.heap.size:=by have:=a.lb;omega
      have T:¬ w.heap.size=pb:=fun e=>S e.symm
      have o:=dq w9 pb 0 (.string rr);have O:Hid (Ok7 { d with r:=rr }):=⟨by show rr.size<=_;omega,a.ok.pages,a.ok.page,a.ok.side,a.ok.log⟩;obtain⟨z,A⟩:=zq (k0:=k) (m:=20000) (a.cur.kept o (fun j hj=>by have:=Option.some.inj hj;have:=a.la;have:=a.lb;omega)) (em o T a.ans) (a.pages.box a.box (by decide) o) (fd a.gr o (fun j hj=>by have:=Option.some.inj hj;have:=a.lw;have:=a.lb;omega)) a.la a.lw (by omega) (.string rr) (.slice p d.ss.length t) (.string d.log) (.int .i64 d.syn);have Q:Hid (ak _ _ _ _):=z;have N:Hid (ed _ _ _ _ _ _):=A;clear OF g c a o z A aU;go_wp2;refine bodyPost_ret (v:=.agg #[.string rr,(.slice p d.ss.length t),.string d.log,.int .i64 d.syn]) ?_ rfl ⟨{ d with r:=rr },(.slice p d.ss.length t),rfl,Q.out,O.out,N.out⟩;rw[av rfl];go_simp
     have bQ:(q == 2)=false:=by simpa using aS
     by_cases aT:q=3
     .subst aT
      have bL:Below f.heap.size f (f.alloc (.cells #[.string pg7] 9)):=bY _;have l:=hZ (c.out.below bL);have aC:Hid (ak (f.alloc (.cells #[.string pg7] 9)) w.heap.size (.slice (some ⟨f.heap.size,0,none⟩) 1 1) [pg7]):=a54 f _ _ pg7 rfl (c.out.gr.size);have c2:=c.out.ok.pages;have bu:=c.out.gr.size;obtain⟨E,F,G,H,I,J⟩:=c.out.box.facts;clear bL;go_wp2_with (at_builtin;refine E9 rfl _ _ rfl w.heap.size w.heap.size (.slice p d.ss.length t) (.slice (some ⟨f.heap.size,0,none⟩) 1 1) d.ss [pg7] rfl rfl l.out.pages aC.out (by simp;omega) l.out.gr.size ?_)
      intro v9 w9 r9 o;obtain⟨a9,c9,bs⟩:=ip r9;subst bs;have aL:Cur w9 B b k8:=l.out.cur.kept o (fun j hj=>Nat.le_trans aP.2 (World.ownsRow.lt l.out.pages j hj).1);have aj:ba w9 w.heap.size ⟨#[]⟩ (.slice none 0 0) ⟨#[]⟩ 0:=Do l.out.ans l.out.pages (by decide) o;have al:ba w9 pb d.r (.slice p d.ss.length t) d.log d.syn:=Do l.out.box l.out.pages (by decide) o;have aM:w.grownBy w9 (some b):=fd l.out.gr o (fun j hj=>(World.ownsRow.lt l.out.pages j hj).1);obtain⟨E,F,G,H,I,J⟩:=al.facts;obtain⟨a0,aa,ab,ac,ad,ae⟩:=aj.facts;have S:¬ pb=w.heap.size:=by have:=l.out.lb;omega
      have T:¬ w.heap.size=pb:=fun e=>S e.symm
      obtain⟨M,a3⟩:∃ M,M=d.ss++[pg7]:=⟨_,rfl⟩
      rw[<- a3]at r9 ⊢;have a2:=dq w9 pb 1 (.slice a9 M.length c9);have O:Hid (Ok7 { d with ss:=M }):=⟨l.out.ok.rules,by show M.length<=_;rw[a3];have:=l.out.lg.2;simp;omega,fun s hs=>by rw[a3]at hs;rcases List.mem_append.1 hs with h|h;exact l.out.ok.page s h;(have:s=pg7:=by simpa using h);subst this;decide,by show q9 M;rw[a3];exact ah1 l.out.ok.side,l.out.ok.log⟩;obtain⟨z,A⟩:=zq (k0:=k) (m:=20000) (aL.kept a2 (fun j hj=>by have:=Option.some.inj hj;have:=l.out.la;have:=l.out.lb;omega)) (em a2 T aj) (r9.box al (by decide) a2) (fd aM a2 (fun j hj=>by have:=Option.some.inj hj;have:=l.out.lw;have:=l.out.lb;omega)) l.out.la l.out.lw (by omega) (.string d.r) (.slice a9 M.length c9) (.string d.log) (.int .i64 d.syn);have Q:Hid (ak _ _ _ _):=z;have N:Hid (ed _ _ _ _ _ _):=A
      clear c l aC r9 o a2 z A aL aj al aM a3;go_wp2;refine bodyPost_ret (v:=.agg #[.string d.r,(.slice a9 M.length c9),.string d.log,.int .i64 d.syn]) ?_ rfl ⟨{ d with ss:=M },(.slice a9 M.length c9),rfl,Q.out,O.out,N.out⟩;rw[av rfl];go_simp
     have bS:(q == 3)=false:=by simpa using aT
     obtain⟨E,F,G,H,I,J⟩:=c.out.box.facts;obtain⟨a0,aa,ab,ac,ad,ae⟩:=c.out.ans.facts;have S:¬ pb=w.heap.size:=by have:=c.out.lb;omega
     have T:¬ w.heap.size=pb:=fun e=>S e.symm
     have O:Hid (Ok7 d):=c.out.ok;obtain⟨z,A⟩:=zq (k0:=k) (m:=20000) c.out.cur c.out.ans c.out.pages c.out.gr c.out.la c.out.lw (by omega) (.string d.r) (.slice p d.ss.length t) (.string d.log) (.int .i64 d.syn);have Q:Hid (ak _ _ _ _):=z;have N:Hid (ed _ _ _ _ _ _):=A;clear z A;clear c;go_wp2;refine bodyPost_ret (v:=.agg #[.string d.r,(.slice p d.ss.length t),.string d.log,.int .i64 d.syn]) ?_ rfl ⟨d,(.slice p d.ss.length t),rfl,Q.out,O.out,N.out⟩;rw[av rfl];go_simp
theorem Z2 (a:Int) (x v:ByteArray) (u:World):(Instr.field 27 (.agg #[.int .i64 a,.string x,.string v]) 1).run prog u=.ok (.string x) u:=by kernel_rfl
theorem L3 (w:World) (a:Option Addr) (n cap:Nat) (hn:n<=1048576) (h:Ff w a n) :
  Calls prog 20 #[.slice a n cap] w fun e w'=>∃ (d:Ds7) (A:Value) (S hi:ByteArray),e=.returned (.tuple #[.agg #[.string d.r,A,.string d.log,.int .i64 d.syn],.string S,.string hi])/\ak w' w.heap.size A d.ss/\Ok7 d/\S.size<=300/\hi.size<=300/\Below w.heap.size w w':=by
 have x:Below w.heap.size w (w.alloc (.cells #[.string ⟨#[]⟩,.slice none 0 0,.string ⟨#[]⟩,.int .i64 0] 25)):=bY _;have M:(w.alloc (.cells #[.string ⟨#[]⟩,.slice none 0 0,.string ⟨#[]⟩,.int .i64 0] 25)).heap.size=w.heap.size+1:=by simp
 have k:=am1 (w.alloc (.cells #[.string ⟨#[]⟩,.slice none 0 0,.string ⟨#[]⟩,.int .i64 0] 25)) a n cap hn (h.below x);rw[M]at k;obtain⟨W1,b⟩:∃ W1,W1=(w.alloc (.cells #[.string ⟨#[]⟩,.slice none 0 0,.string ⟨#[]⟩,.int .i64 0] 25)).alloc (.cells #[.slice a n cap,.int .i64 0,.int .u64 0] 67):=⟨_,rfl⟩
 rw[<- b]at k;have R:Below w.heap.size w W1:=by rw[b];exact x.alloc (by simp) _
 have G:ba W1 w.heap.size ⟨#[]⟩ (.slice none 0 0) ⟨#[]⟩ 0:=by
  show _=_
  rw[b,Below.heap_alloc _ _ _ (by simp)];exact heap_alloc_new w _
 have Q:=U3 W1 (w.heap.size+1+1) (w.heap.size+1) 0 k (by omega);have C:=hZ G;have m:=hZ R;have a7:W1.heap.size=w.heap.size+2:=by rw[b];simp
 have F:Hid (W1=(w.alloc (.cells #[.string ⟨#[]⟩,.slice none 0 0,.string ⟨#[]⟩,.int .i64 0] 25)).alloc (.cells #[.slice a n cap,.int .i64 0,.int .u64 0] 67)):=b;have a3:=Z2;clear h x M k R G b;go_enter func20,ntmps20;go_wp2_with fail;rw[<- F.out];refine Q.mono ?_;rintro e B ⟨d,A,rfl,z,N,⟨k2,a4,J⟩,y⟩;obtain⟨c,f,Z⟩:=ip z;subst Z;have O:=Io B (w.heap.size+1+1) (w.heap.size+1) k2 J (by omega);have H:ba B w.heap.size ⟨#[]⟩ (.slice none 0 0) ⟨#[]⟩ 0:=em y (by omega) C.out;have D:=hZ H;have o:Hid (Below w.heap.size w B):=Below.grown m.out y m.out.size (fun j hj=>by have:=Option.some.inj hj;omega);have s:=hZ z;have W:=hZ N;clear Q F C m z y J H N;go_wp2_with fail
 refine O.mono ?_;rintro e l ⟨aa,T,v3,rfl,a1,a8,⟨k3,a5,K⟩,g⟩;have P:=Io l (w.heap.size+1+1) (w.heap.size+1) k3 K (by omega);have E:Hid (ba l w.heap.size ⟨#[]⟩ (.slice none 0 0) ⟨#[]⟩ 0):=em g (by omega) D.out;have q:Hid (Below w.heap.size w l):=Below.grown o.out g o.out.size (fun j hj=>by have:=Option.some.inj hj;omega);have t:Hid (ak l W1.heap.size (.slice c d.ss.length f) d.ss):=World.ownsRow.kept s.out g (J3 s.out (by omega));clear O g K D o s;go_wp2_with fail;refine P.mono ?_;rintro e w4 ⟨ab,U,v4,rfl,a2,a9,⟨k4,a6,Y⟩,i⟩;have u:ba w4 w.heap.size ⟨#[]⟩ (.slice none 0 0) ⟨#[]⟩ 0:=em i (by omega) E.out;have I:Below w.heap.size w w4:=Below.grown q.out i q.out.size (fun j hj=>by have:=Option.some.inj hj;omega)
 have L:ak w4 w.heap.size (.slice c d.ss.length f) d.ss:=kq (World.ownsRow.kept t.out i (J3 t.out (by omega))) (by omega);have X:Hid (ak _ _ _ _):=L.box u (by decide) (lu w4 w.heap.size (.string d.r) (.slice c d.ss.length f) (.string d.log) (.int .i64 d.syn));have V:Hid (Below _ _ _):=jk (p:=w.heap.size) I bR (.string d.r) (.slice c d.ss.length f) (.string d.log) (.int .i64 d.syn);obtain⟨a0,ac,ad,ae,af,ag⟩:=u.facts;clear P i Y E q t u I L;go_wp2;refine bodyPost_ret (v:=.tuple #[.agg #[.string d.r,.slice c d.ss.length f,.string d.log,.int .i64 d.syn],.string T,.string U]) ?_ rfl ⟨d,.slice c d.ss.length f,T,U,rfl,X.out,W.out,a1,a2,V.out⟩;rw[f6 rfl];go_simp
end Go.Proofs.YtjbmgghehdemdaaGreatDoor
