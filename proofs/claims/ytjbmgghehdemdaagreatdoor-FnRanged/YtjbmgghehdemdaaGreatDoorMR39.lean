/- IOpen7b -/
import Derived.Test.YtjbmgghehdemdaaGreatDoorMR34
namespace Go.Proofs.YtjbmgghehdemdaaGreatDoor
set_option maxRecDepth 100000
set_option maxHeartbeats 16000000
open _root_.Go.Proofs.Tryz
open Go.RowKit
theorem Ug {w:World} {B:Nat} {v:Value} {es:List Ent}(h:ac w B v es):∃ a c,v=.slice a es.length c:=by
 rcases h.form with ⟨rfl,b⟩|⟨_,_,rfl,_,_,_,_⟩
 .rw[b];exact⟨_,_,rfl⟩
 .exact⟨_,_,rfl⟩
theorem a78 (u:World):ny (u.alloc (.cells #[.slice none 0 0,.bool false,.int .i64 0,.string ⟨#[]⟩,.slice none 0 0,.string ⟨#[]⟩,.int .i64 0,.slice none 0 0] 71)) u.heap.size (.slice none 0 0) false 0 ⟨#[]⟩ (.slice none 0 0) ⟨#[]⟩ 0 (.slice none 0 0):=heap_alloc_new u _
theorem au4 {u:World} {a b:Nat} {d:Value} {R:RA} {r:ByteArray} {e:Value} {ss:List ByteArray} {log:ByteArray} {syn:Int} {vr:Value} {l:List Rw}(c:ny u b (.slice none 0 0) false 0 ⟨#[]⟩ (.slice none 0 0) ⟨#[]⟩ 0 (.slice none 0 0)) (h1:ac u a d R.es) (h2:ak u a e ss) (f:Rws u a vr l) (h:a<=b) :
  Ix7 (set8 u b d (.bool R.sh) (.int .i64 R.lv) (.string r) e (.string log) (.int .i64 syn) vr) a b d R r e ss log syn vr l :=
 have g:=wg u b d (.bool R.sh) (.int .i64 R.lv) (.string r) e (.string log) (.int .i64 syn) vr;⟨Zi rfl c _ _ _ _ _ _ _ _,h1.boxT c (by decide) (by decide) g,World.ownsRow.kept h2 g (iw h2 c (by decide)),World.ownsRow.kept f g (iw f c (by decide)),h⟩
theorem Hd7.set8 {w u:World} {r:ByteArray} {j:Value} {log:ByteArray} {syn:Int}(h:Hd7 w u r j log syn){p:Nat}(i:w.heap.size+1<p) (a b c d e f g k:Value):Hd7 w (set8 u p a b c d e f g k) r j log syn :=
 (((((((h.set (k:=0) i a).set (k:=1) i b).set (k:=2) i c).set (k:=3) i d).set (k:=4) i e).set (k:=5) i f).set (k:=6) i g).set (k:=7) i k
theorem al2 {u:World} {i b p:Nat} {k:Value} {R:RA} {r:ByteArray} {m:Value} {ss:List ByteArray} {log:ByteArray} {syn:Int} {vr:Value} {l:List Rw} {cs:Array Value}(h:Ix7 u i b k R r m ss log syn vr l) (j:u.heap[p]? = some (.cells cs 71)) (a c a3 a4 a5 d e f:Value) :
  ac (set8 u p a c a3 a4 a5 d e f) i k R.es/\ak (set8 u p a c a3 a4 a5 d e f) i m ss/\Rws (set8 u p a c a3 a4 a5 d e f) i vr l :=
 have g:=wg u p a c a3 a4 a5 d e f;⟨h.ents.boxT j (by decide) (by decide) g,World.ownsRow.kept h.pages g (iw h.pages j (by decide)),World.ownsRow.kept h.rows g (iw h.rows j (by decide))⟩
theorem a87 {u:World} {B b t k:Nat} {v x:Value} {os:List Dn} {cs:Array Value}(h:Dos u B v os) (a:u.heap[b]? = some (.cells cs t)) (ht:27≠t):Dos (u.setCell ⟨b,k,none⟩ x) B v os:=World.ownsRow.kept h (dq u b k x) (iw h a ht)
theorem Le {w:World} {B:Nat} {vd:Value} {ss:List ByteArray} {pb pl pf pn:Addr} {ty:TypeId} {pv:Value}(r log:ByteArray) (syn:Int) (hr:r.size<=1048576) (bC:log.size<=1048576) (hS:ak w B vd ss) (hz:∀ s ∈ ss,s.size<=1048576) (hl:ss.length<=1048576) (ab:q9 ss) (ht:dr w) (hG:f7 w ty pv) (hV:Ev7 w pb pl pf pn) :
  Calls prog 38 #[.agg #[.string r,vd,.string log,.int .i64 syn]] w fun e w'=>ar9 w (aa r) r ss log syn pb e w':=by
 obtain⟨E,G,c0,_⟩:=js hS;subst c0;obtain⟨W0,hW⟩:∃ W0,W0=(w.alloc (.cells #[.string r,.slice E ss.length G,.string log,.int .i64 syn] 25)).alloc (.cells #[.slice none 0 0,.bool false,.int .i64 0,.string ⟨#[]⟩,.slice none 0 0,.string ⟨#[]⟩,.int .i64 0,.slice none 0 0] 71):=⟨_,rfl⟩
 have aQ:Below w.heap.size w W0:=by rw[hW];exact (bY _).alloc (by simp) _
 have bQ:W0.heap.size=w.heap.size+2:=by rw[hW];simp
 have aR:Hd7 w W0 r (.slice E ss.length G) log syn:=by
  refine⟨?_,?_,aQ⟩
  .show _=_
   rw[hW,Below.heap_alloc _ _ _ (by simp)];exact heap_alloc_new w _
  .have h:=heap_alloc_new (w.alloc (.cells #[.string r,.slice E ss.length G,.string log,.int .i64 syn] 25)) (.cells #[.slice none 0 0,.bool false,.int .i64 0,.string ⟨#[]⟩,.slice none 0 0,.string ⟨#[]⟩,.int .i64 0,.slice none 0 0] 71)
   rw[World.size_alloc]at h;show _=_
   rw[hW];exact h
 have d:Hid (∀ u,Below w.heap.size w u->ak u B (.slice E ss.length G) ss/\dr u/\f7 u ty pv/\Ev7 u pb pl pf pn):=fun u hu=>⟨hS.below hu,ht.below hu,(hu.cell (p:=⟨6,0,none⟩) hG.lt).trans hG,hV.below hu⟩
 have RD:=Ng r W0 (d.out W0 aQ).2.1 hr;obtain⟨R,hR⟩:∃ R,R=aa r:=⟨_,rfl⟩
 rw[<- hR]at RD ⊢;have al:Hid (R.code=0->ay R.es R.lv=true):=fun h=>by rw[hR]at h ⊢;exact (B0 r h).1
 have HZ:Hid (∀ s ∈ ss,s.size<=1048576):=hz;have an:=hZ ab;have aI:=hZ aR;have HW:Hid (W0=(w.alloc (.cells #[.string r,.slice E ss.length G,.string log,.int .i64 syn] 25)).alloc (.cells #[.slice none 0 0,.bool false,.int .i64 0,.string ⟨#[]⟩,.slice none 0 0,.string ⟨#[]⟩,.int .i64 0,.slice none 0 0] 71)):=hW;have A:=aR.disk.facts;obtain⟨aF,d0,d1,d2,d3,df⟩:=A;clear hS hz ab ht hG hV aQ aR hW hR;go_enter func38,ntmps38;go_wp2_with fail;rw[<- HW.out];clear HW;go_wp2_with fail;refine RD.mono ?_;rintro e w1 ⟨v1,rfl,e1,b1⟩;obtain⟨y,z,bT⟩:=Ug e1.ents;subst bT;obtain⟨W1,aD⟩:∃ W1,W1=w1.alloc (.cells #[.slice y R.es.length z,.bool R.sh,.int .i64 R.lv] 56):=⟨_,rfl⟩
 have bA:Below w1.heap.size w1 W1:=by rw[aD];exact bY _
 have aB:Hd7 w W1 r (.slice E ss.length G) log syn:=(aI.out.below b1).below bA;have bs:Hid (jf W1 w1.heap.size (.slice y R.es.length z) R.sh R.lv):=by show _=_;rw[aD];exact heap_alloc_new w1 _
 have bk:=hZ (e1.ents.below bA);have c9:w.heap.size+1<w1.heap.size:=by have:=b1.size;omega
 have be:=hZ aB;have bt:Hid (W1=w1.alloc (.cells #[.slice y R.es.length z,.bool R.sh,.int .i64 R.lv] 56)):=aD;have OB:=Ld (d.out W1 aB.bel).1 HZ.out hl (d.out W1 aB.bel).2.2.1;obtain⟨aF,d0,d1,d2,d3,df⟩:=(aI.out.below b1).disk.facts;clear RD e1 b1 bA aB aD aI;go_wp2_with fail;rw[<- bt.out];refine OB.mono ?_;rintro e w2 ⟨v2,rfl,⟨hN,hn⟩,b2⟩;have aj:=hZ (be.out.below b2);have am:=hZ (bs.out.below b2);have bl:=hZ (bk.out.below b2);clear OB b2 be bs bk bt d0 d1 d2 d3 df aF
 cases hbk:ca ss with
 | none =>
  have ba:=hn hbk;subst ba;have n:Hid (dx R ss log=none):=Ex hbk;have CN:=Ee (qu.nil w2 0 none) (by simp) (by simp);have aX:((none:Option (List (List Rw))).isSome)=false:=rfl;clear hN hn hbk;go_wp2_with fail;refine CN.mono ?_;rintro e w3 ⟨v3,rfl,r3,Z⟩;have a:=hZ (aj.out.below Z);have j:Hid (Ev7 w3 pb pl pf pn):=(d.out w3 a.out.bel).2.2.2;clear CN r3 Z aj;go_upto_region 4 with fail
  by_cases D:R.code=0
  .generalize R.code=cde at *
   subst D;clear d al HZ an aX;have A:=a.out.ans.facts;obtain⟨S,T,U,L,Q,V,t,W,X,Y⟩:=A;have J:=j.out.bad;have a9:=ag J;clear j;go_upto_region 5 with fail
   go_region
   all_goals
    go_wp2;refine bodyPost_ret (v:=.tuple #[zIx,.iface 298 (.pointer (some pb))]) ?_ rfl ⟨?_,?_⟩
    .rw[results_cell_tmp rfl]
     go_simp;rfl
    .rw[n.out]
     exact⟨_,rfl,.inl rfl⟩
    .repeat (first|with_reducible exact a.out.bel|with_reducible refine Below.drew ?_|with_reducible refine Below.setCell ?_ (by show w.heap.size<=w.heap.size+1;omega) _)
  .have aY:(R.code != 0)=true:=by simpa using D
   clear d al HZ an aX;have A:=a.out.ans.facts;obtain⟨S,T,U,L,Q,V,t,W,X,Y⟩:=A;have J:=j.out.bad;have a9:=ag J;clear j;go_upto_region 5 with fail
   go_region
   all_goals
    go_wp2;refine bodyPost_ret (v:=.tuple #[zIx,.iface 298 (.pointer (some pb))]) ?_ rfl ⟨?_,?_⟩
    .rw[results_cell_tmp rfl]
     go_simp;rfl
    .rw[n.out]
     exact⟨_,rfl,.inl rfl⟩
    .repeat (first|with_reducible exact a.out.bel|with_reducible refine Below.drew ?_|with_reducible refine Below.setCell ?_ (by show w.heap.size<=w.heap.size+1;omega) _)
 | some gs =>
  obtain⟨vs,aT⟩:=hN gs hbk;have bO:=uz hbk;have aC:=an.out gs hbk;have CN:=Ee aT.lists7 (by omega) (by omega);obtain⟨F,hF⟩:∃ F,F=gs.flatten:=⟨_,rfl⟩
  have bH:Hid (iy R F=false->dx R ss log=none):=fun h=>Ez hbk (by rw[<- hF];exact h)
  have bp:Hid (R.code=0->iy R F=true->log.size<=6000->dx R ss log=(jd log).bind (oq R F)):=fun h0 h N=>by rw[hF]at h ⊢;exact Kp hbk h0 h N
  have bK:Hid (iy R F=true->im R F):=fun h=>by rw[hF]at h ⊢;exact I0 an.out hbk h
  rw[<- hF]at CN aC;obtain⟨L,c2,ba,_⟩:=aT.form;subst ba;have aX:((some gs:Option (List (List Rw))).isSome)=true:=rfl;have bN:Hid (∀ x ∈ F,x.text.size<=200):=fun x hx=>by have:=(aC.2 x hx).1;omega
  have cu:F.length<=60:=aC.1;clear hN hn hbk aT bO aC hF an;go_wp2_with fail;refine CN.mono ?_;rintro e w3 ⟨v3,rfl,r3,Z⟩;obtain⟨a3,c3,bU⟩:=bz r3;subst bU;have az:=hZ (aj.out.below Z);have ae:=hZ (am.out.below Z);have aK:=hZ (bl.out.below Z);have aN:=hZ r3;have cb:w.heap.size<=w2.heap.size:=aj.out.bel.size;clear CN r3 Z aj am bl;by_cases D:R.code=0
  .have bD:=al.out D
   have bx:Ru7 w3 W0.heap.size (.slice y R.es.length z) R:=⟨aK.out,bD,(d.out w3 az.out.bel).2.1⟩;have KD:=Zo (c:=c3) (by omega) bN.out bx (ew aN.out);obtain⟨b9,u0,u1,u2⟩:=ae.out.facts;obtain⟨KB,aS⟩:∃ KB,KB=iy R F:=⟨_,rfl⟩
   rw[<- aS]at KD;have aA:Hid (KB=iy R F):=aS;have bd:Hid (R.code=0):=D;go_upto_region 4 with fail
   generalize hcde:R.code=cde;obtain rfl:cde=0:=hcde.symm.trans D;clear bx aS D hcde;go_wp2_with fail;refine KD.mono ?_;rintro e b ⟨rfl,b4⟩;have P:=hZ (az.out.below b4);have ah:=hZ (ae.out.below b4);have bm:=hZ (aK.out.below b4);have br:=hZ (aN.out.below b4);clear KD b4 az ae aK aN u0 u1 u2 b9
   cases KB
   .have n:Hid (dx R ss log=none):=bH.out aA.out.symm
    have a:=P;have j:Hid (Ev7 b pb pl pf pn):=(d.out b a.out.bel).2.2.2;clear d al HZ;have A:=a.out.ans.facts;obtain⟨S,T,U,L,Q,V,t,W,X,Y⟩:=A;have J:=j.out.bad;have a9:=ag J;clear j;go_upto_region 5 with fail
    go_region
    all_goals
     go_wp2;refine bodyPost_ret (v:=.tuple #[zIx,.iface 298 (.pointer (some pb))]) ?_ rfl ⟨?_,?_⟩
     .rw[results_cell_tmp rfl]
      go_simp;rfl
     .rw[n.out]
      exact⟨_,rfl,.inl rfl⟩
     .repeat (first|with_reducible exact a.out.bel|with_reducible refine Below.drew ?_|with_reducible refine Below.setCell ?_ (by show w.heap.size<=w.heap.size+1;omega) _)
   .have bL:Hid (im R F):=bK.out aA.out.symm
    have bw:=fun (u:World) (hu:Below b.heap.size b u)=>Mj r log syn ((d.out u (P.out.bel.trans (hu.mono P.out.bel.size))).1) HZ.out hl hr bC
    obtain⟨b9,u0,u1,u2⟩:=ah.out.facts;obtain⟨aF,d0,d1,d2,d3,df⟩:=P.out.disk.facts;have HA:Hid (Below b.heap.size b (b.alloc (.cells #[.slice none 0 0,.bool false,.int .i64 0,.string ⟨#[]⟩,.slice none 0 0,.string ⟨#[]⟩,.int .i64 0,.slice none 0 0] 71))):=bY _;have cc:w.heap.size+1<b.heap.size:=P.out.ans.lt;have c7:W0.heap.size=w.heap.size+2:=bQ;go_upto_region 6 with fail
    go_cut [9] from 42 to 47 (fun v9 wx=>∃ (M:Nat) (vp:Value),v9=.pointer (some ⟨M,0,none⟩)/\b.heap.size<=M/\Ix7 wx w.heap.size M (.slice y R.es.length z) R r vp ss log syn (.slice a3 F.length c3) F/\Hd7 w wx r (.slice E ss.length G) log syn)
    case first =>
     go_region_law (go_simp;go_at_call 88;refine (bw _ (by repeat (first|exact bX|refine Below.drew ?_|refine Below.alloc ?_ bR _))).mono ?_;rintro e w5 ⟨v5,rfl,s5,f⟩;obtain⟨t,c5,bV,_⟩:=js s5;subst bV;have z5:Below b.heap.size b w5:=(by first|exact⟨f.os,f.tape,f.output,f.size,f.block⟩|exact HA.out.trans (Below.mono (B:=(b.alloc (.cells #[.slice none 0 0,.bool false,.int .i64 0,.string ⟨#[]⟩,.slice none 0 0,.string ⟨#[]⟩,.int .i64 0,.slice none 0 0] 71)).heap.size) (w:=b.alloc (.cells #[.slice none 0 0,.bool false,.int .i64 0,.string ⟨#[]⟩,.slice none 0 0,.string ⟨#[]⟩,.int .i64 0,.slice none 0 0] 71)) ⟨f.os,f.tape,f.output,f.size,f.block⟩ HA.out.size));obtain⟨bP,cx,u15,u25⟩:=(ah.out.below z5).facts;(try (have x5:ny w5 b.heap.size (.slice none 0 0) false 0 ⟨#[]⟩ (.slice none 0 0) ⟨#[]⟩ 0 (.slice none 0 0):=(a78 b).below ⟨f.os,f.tape,f.output,f.size,f.block⟩;obtain⟨l5,ch,ci,cj,ck,cl,cm,cn,cq,f5⟩:=x5.facts)))
     all_goals
      have bS:=z5.size;have t5:ak w5 w.heap.size (.slice t ss.length c5) ss:=kq s5 (by first|omega|(simp;omega)|(show w.heap.size<=(b.alloc _).heap.size;simp;omega)|(show w.heap.size<=b.heap.size;omega));have bv:ac w5 w.heap.size (.slice y R.es.length z) R.es:=ac.low (bm.out.below z5) (by omega);have bE:Rws w5 w.heap.size (.slice a3 F.length c3) F:=cz (br.out.below z5) (by omega);have bB:=P.out.below z5;clear s5 f;go_wp2_with fail;go_meet
      case rel=>first
       | (
         have R5:=au4 (r:=r) (log:=log) (syn:=syn) x5 bv t5 bE (show w.heap.size<=b.heap.size by omega);have D5:=bB.set8 cc (.slice y R.es.length z) (.bool R.sh) (.int .i64 R.lv) (.string r) (.slice t ss.length c5) (.string log) (.int .i64 syn) (.slice a3 F.length c3);unfold set8 at R5 D5;exact⟨b.heap.size,.slice t ss.length c5,rfl,bR,R5,D5⟩)
       | (
         have R5:=Nn (r:=r) (log:=log) (syn:=syn) bv t5 bE (show w.heap.size<=w5.heap.size by omega);exact⟨w5.heap.size,.slice t ss.length c5,rfl,bS,R5,bB.below (bY _)⟩)
    case rest =>
     obtain⟨M,vp,bZ,ct,C,H⟩:=hcut;subst bZ;obtain⟨ap,cp,c4,_⟩:=js C.pages;subst c4;have RL:=Rn log wc bC (ty:=298) (pv:=.pointer (some pb)) (d.out wc H.bel).2.2.2.bad;obtain⟨aV,i0,i1,i2,i3,i4,i5,i6,i7,i8⟩:=C.box.facts;have HI:=hZ C;have HD:=hZ H;clear C H bw u0 u1 u2 b9 d0 d1 d2 d3 df aF HA P ah bm br;go_wp2_with fail;refine RL.mono ?_;clear RL;rintro e w6 (⟨N,m,vo,aw,rfl,I,cv,K⟩|⟨N,aw,rfl,K⟩|⟨N,rfl,K⟩)
     .obtain⟨ao,co,c1⟩:=a88 I
      subst c1;have aH:Hid (dx R ss log=oq R F m):=by show _=_;rw[bp.out bd.out aA.out.symm N,aw];rfl
      have bM:Hid (∀ o ∈ m,o.text.size<=255/\o.val.size<=255):=Sz _ _ _ aw;have bn:=HI.out.below K;have bf:=HD.out.below K;obtain⟨O,ai⟩:∃ O,O=dx R ss log:=⟨_,rfl⟩
      have bb:Hid (O=dx R ss log):=ai;have aO:Hid (aj7 w wc M (.slice y R.es.length z) R r (.slice E ss.length G) (.slice ap ss.length cp) ss log syn (.slice ao m.length co) m O (.int .i64 ((0:Nat):Int)) w6):=⟨0,_,F,Nat.zero_le _,rfl,bn,bf,I,bL.out,by rw[ai,aH.out];rfl⟩;clear i0 i1 i2 i3 i4 i5 i6 i7 i8 aV I aw N K bn bf ai HI HD;go_wp2_with fail;go_loopw [60] (fun i wr=>aj7 w wc M (.slice y R.es.length z) R r (.slice E ss.length G) (.slice ap ss.length cp) ss log syn (.slice ao m.length co) m O i wr) (fun i _=>m.length-(intOf i).toNat)
      case atStart=>exact aO.out
      case round =>
       obtain⟨k,vr,l,hk,rfl,C,H,I,av,hA⟩:=hrel;obtain⟨ar,cr,c6⟩:=bz C.rows;subst c6;by_cases aZ:k<m.length
       .obtain⟨o,ho⟩:∃ o,m[k]? = some o:=⟨_,List.getElem?_eq_getElem aZ⟩
        obtain⟨g,rfl⟩:∃ g,ao=some ⟨g,0,none⟩:=by
         rcases I.form with ⟨_,h⟩|⟨g,cs,h,_,_⟩
         .rw[h]at aZ;simp at aZ
         .injection h with h _ _
          exact⟨g,h⟩
        obtain⟨o0,o1,o2⟩:=I.cells k o ho;have cg:=ag o0;have b0:(k:Int)<(m.length:Int):=by omega
        have cw:=bM.out o (List.mem_of_getElem? ho);have bc:Hid (O=if apC R l o=0 then oq R (apR R l o) (m.drop (k+1)) else none):=by show _=_;rw[<- hA,a30 ho]
        obtain⟨W7,aE⟩:∃ W7,W7=wr.alloc (.cells #[.int .i64 (kn7 o),.string o.text,.string o.val] 27):=⟨_,rfl⟩
        have b7:Below wr.heap.size wr W7:=by rw[aE];exact bY _
        have au:=C.below b7;have aq:=H.below b7;have RB:=J5 (pb:=pb) (pl:=pl) (pf:=pf) (pn:=pn) o (by omega) (by omega) au.box ⟨au.ents,bD,(d.out W7 aq.bel).2.1⟩ (d.out W7 aq.bel).2.2.2 au.rows av.rise av.len;have bq:Hid (gi W7 wr.heap.size (kn7 o) o.text o.val):=by show _=_;rw[aE];exact heap_alloc_new wr _
        obtain⟨cf,x0,x1,x2⟩:=bq.out.facts;have bo:=hZ au;have bg:=hZ aq;have bj:=hZ (I.below b7);have bI:=hZ av;have bu:Hid (W7=wr.alloc (.cells #[.int .i64 (kn7 o),.string o.text,.string o.val] 27)):=aE;have ce:w.heap.size<=W7.heap.size:=aq.bel.size;clear C H I av hA au aq b7 aE ho;go_wp2_with fail;rw[<- bu.out];clear bu;go_wp2_with fail;refine RB.mono ?_;clear RB;rintro e w8 ⟨ax,b8⟩;have aM:=hZ (bo.out.below b8);have bh:=hZ (bg.out.below b8)
        have aJ:=hZ (bj.out.below b8);obtain⟨aW,j0,j1,j2,j3,j4,j5,j6,j7,j8⟩:=aM.out.box.facts;have aU:(apC R l o=0/\∃ v,e=.returned (.tuple #[v,.nilIface])/\Rws w8 W7.heap.size v (apR R l o))\/(apC R l o≠0/\∃ px:Addr,e=.returned (.tuple #[.slice none 0 0,.iface 298 (.pointer (some px))])):=by
         rcases ax with h|⟨h,q⟩|⟨h,q⟩|⟨h,q⟩
         .exact .inl h
         .exact .inr ⟨by rw[h];decide,_,q⟩
         .exact .inr ⟨by rw[h];decide,_,q⟩
         .exact .inr ⟨by rw[h];decide,_,q⟩
        clear ax b8 x0 x1 x2 cf o0 o1 o2 cg bq bo bg bj;rcases aU with ⟨hc,v8,rfl,r8⟩|⟨hc,px,rfl⟩
        .obtain⟨a8,c8,bW⟩:=bz r8
         subst bW;have bJ:Hid (Rws w8 w.heap.size (.slice a8 (apR R l o).length c8) (apR R l o)):=cz r8 ce;have aP:Hid (im R (apR R l o)):=bI.out.step hc;have bF:Hid (oq R (apR R l o) (m.drop (k+1))=O):=by show _=_;rw[bc.out,if_pos hc]
         clear r8 hc;go_wp2;exact⟨⟨k+1,_,_,by omega,by go_num,aM.out.putRows bJ.out,bh.out.set (by omega) _,a87 aJ.out aM.out.box (by decide),aP.out,bF.out⟩,by simp[intOf];omega⟩
        .have n:Hid (dx R ss log=none):=by show _=_;rw[<- bb.out,bc.out,if_neg hc]
         have a:Hid (Hd7 w (w8.setCell ⟨M,7,none⟩ (.slice none 0 0)) r (.slice E ss.length G) log syn):=bh.out.set (by omega) _;have j:Hid (Ev7 (w8.setCell ⟨M,7,none⟩ (.slice none 0 0)) pb pl pf pn):=(d.out _ a.out.bel).2.2.2;clear hc;have A:=a.out.ans.facts;obtain⟨S,T,U,L,Q,V,t,W,X,Y⟩:=A;have J:=j.out.bad;have a9:=ag J;clear j;go_upto_region 15 with fail
         go_region
         all_goals
          go_wp2;refine bodyPost_ret (v:=.tuple #[zIx,.iface 298 (.pointer (some pb))]) ?_ rfl ⟨?_,?_⟩
          .rw[results_cell_tmp rfl]
           go_simp;rfl
          .rw[n.out]
           exact⟨_,rfl,.inl rfl⟩
          .repeat (first|with_reducible exact a.out.bel|with_reducible refine Below.drew ?_|with_reducible refine Below.setCell ?_ (by show w.heap.size<=w.heap.size+1;omega) _)
       .have b0:¬ (k:Int)<(m.length:Int):=by omega
        have aL:Hid (dx R ss log=some l):=by
         show _=_
         rw[<- bb.out,<- hA,List.drop_eq_nil_of_le (by omega)];rfl
        obtain⟨aW,j0,j1,j2,j3,j4,j5,j6,j7,j8⟩:=C.box.facts;obtain⟨S,T,U,L,Q,V,t,W,X,Y⟩:=H.ans.facts;have aG:Hid _:=al2 C H.ans (.slice y R.es.length z) (.bool R.sh) (.int .i64 R.lv) (.string r) (.slice ap ss.length cp) (.string log) (.int .i64 syn) (.slice ar l.length cr);have bG:Hid _:=ro (p:=w.heap.size+1) H.bel (by omega) (.slice y R.es.length z) (.bool R.sh) (.int .i64 R.lv) (.string r) (.slice ap ss.length cp) (.string log) (.int .i64 syn) (.slice ar l.length cr);clear C H I av hA;go_wp2;refine bodyPost_ret (v:=.tuple #[ixV (.slice y R.es.length z) R r (.slice ap ss.length cp) log syn (.slice ar l.length cr),.nilIface]) ?_ rfl ⟨by rw[aL.out];exact⟨_,_,_,rfl,aG.out.1,aG.out.2.1,aG.out.2.2⟩,bG.out⟩;rw[results_cell_tmp rfl];go_simp;rfl
     .have n:Hid (dx R ss log=none):=by show _=_;rw[bp.out bd.out aA.out.symm N,aw];rfl
      have a:=hZ (HD.out.below K);obtain⟨S,T,U,L,Q,V,t,W,X,Y⟩:=a.out.ans.facts;clear i0 i1 i2 i3 i4 i5 i6 i7 i8 aV K HD HI;go_wp2;refine bodyPost_ret (v:=.tuple #[zIx,.iface 98 (.agg #[.int .i64 (jm log:Int)])]) ?_ rfl ⟨by rw[n.out];exact⟨_,rfl,.inr ⟨_,rfl⟩⟩,ro (p:=w.heap.size+1) a.out.bel (by omega) (.slice none 0 0) (.bool false) (.int .i64 0) (.string ⟨#[]⟩) (.slice none 0 0) (.string ⟨#[]⟩) (.int .i64 0) (.slice none 0 0)⟩;rw[results_cell_tmp rfl];go_simp;rfl
     .have n:Hid (dx R ss log=none):=F4 N
      have a:=hZ (HD.out.below K);obtain⟨S,T,U,L,Q,V,t,W,X,Y⟩:=a.out.ans.facts;clear i0 i1 i2 i3 i4 i5 i6 i7 i8 aV K HD HI;go_wp2;refine bodyPost_ret (v:=.tuple #[zIx,.iface 298 (.pointer (some pb))]) ?_ rfl ⟨by rw[n.out];exact⟨_,rfl,.inl rfl⟩,ro (p:=w.heap.size+1) a.out.bel (by omega) (.slice none 0 0) (.bool false) (.int .i64 0) (.string ⟨#[]⟩) (.slice none 0 0) (.string ⟨#[]⟩) (.int .i64 0) (.slice none 0 0)⟩;rw[results_cell_tmp rfl];go_simp;rfl
  .have aY:(R.code != 0)=true:=by simpa using D
   have n:Hid (dx R ss log=none):=Ey D;have a:=az;have j:Hid (Ev7 w3 pb pl pf pn):=(d.out w3 a.out.bel).2.2.2;clear d al HZ D;have A:=a.out.ans.facts;obtain⟨S,T,U,L,Q,V,t,W,X,Y⟩:=A;have J:=j.out.bad;have a9:=ag J;clear j;go_upto_region 5 with fail
   go_region
   all_goals
    go_wp2;refine bodyPost_ret (v:=.tuple #[zIx,.iface 298 (.pointer (some pb))]) ?_ rfl ⟨?_,?_⟩
    .rw[results_cell_tmp rfl]
     go_simp;rfl
    .rw[n.out]
     exact⟨_,rfl,.inl rfl⟩
    .repeat (first|with_reducible exact a.out.bel|with_reducible refine Below.drew ?_|with_reducible refine Below.setCell ?_ (by show w.heap.size<=w.heap.size+1;omega) _)
theorem Oc:Di:=by
 intro w B i d h pv c f e g a b;exact Le d.r d.log d.syn a.ok.rules (Nat.le_trans a.ok.log (by decide)) a.pages a.ok.page a.ok.pages a.ok.side b.tabs b.lack b.errs
end Go.Proofs.YtjbmgghehdemdaaGreatDoor
