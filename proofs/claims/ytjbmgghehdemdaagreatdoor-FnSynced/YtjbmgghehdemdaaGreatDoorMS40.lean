/- IOpen7b -/
import Derived.Test.YtjbmgghehdemdaaGreatDoorMS36
namespace Go.Proofs.YtjbmgghehdemdaaGreatDoor
set_option maxRecDepth 100000
set_option maxHeartbeats 16000000
open _root_.Go.Proofs.Tryz
open Go.RowKit
theorem Vz {w:World} {B:Nat} {v:Value} {es:List Ent}(h:ac w B v es):∃ a c,v=.slice a es.length c:=by
 rcases h.form with ⟨rfl,b⟩|⟨_,_,rfl,_,_,_,_⟩
 .rw[b];exact⟨_,_,rfl⟩
 .exact⟨_,_,rfl⟩
theorem ag1 (u:World):jz (u.alloc (.cells #[.slice none 0 0,.bool false,.int .i64 0,.string ⟨#[]⟩,.slice none 0 0,.string ⟨#[]⟩,.int .i64 0,.slice none 0 0] 71)) u.heap.size (.slice none 0 0) false 0 ⟨#[]⟩ (.slice none 0 0) ⟨#[]⟩ 0 (.slice none 0 0):=heap_alloc_new u _
theorem b73 {u:World} {a b:Nat} {d:Value} {R:RA} {r:ByteArray} {e:Value} {ss:List ByteArray} {log:ByteArray} {syn:Int} {vr:Value} {l:List Rw}(c:jz u b (.slice none 0 0) false 0 ⟨#[]⟩ (.slice none 0 0) ⟨#[]⟩ 0 (.slice none 0 0)) (h1:ac u a d R.es) (h2:ah u a e ss) (f:Rws u a vr l) (h:a<=b) :
  Ix7 (set8 u b d (.bool R.sh) (.int .i64 R.lv) (.string r) e (.string log) (.int .i64 syn) vr) a b d R r e ss log syn vr l :=
 have g:=y5 u b d (.bool R.sh) (.int .i64 R.lv) (.string r) e (.string log) (.int .i64 syn) vr;⟨a61 rfl c _ _ _ _ _ _ _ _,h1.boxT c (by decide) (by decide) g,World.ownsRow.kept h2 g (ic h2 c (by decide)),World.ownsRow.kept f g (ic f c (by decide)),h⟩
theorem Hd7.set8 {w u:World} {r:ByteArray} {j:Value} {log:ByteArray} {syn:Int}(h:Hd7 w u r j log syn){p:Nat}(i:w.heap.size+1<p) (a b c d e f g k:Value):Hd7 w (set8 u p a b c d e f g k) r j log syn :=
 (((((((h.set (k:=0) i a).set (k:=1) i b).set (k:=2) i c).set (k:=3) i d).set (k:=4) i e).set (k:=5) i f).set (k:=6) i g).set (k:=7) i k
theorem au8 {u:World} {i b p:Nat} {k:Value} {R:RA} {r:ByteArray} {m:Value} {ss:List ByteArray} {log:ByteArray} {syn:Int} {vr:Value} {l:List Rw} {cs:Array Value}(h:Ix7 u i b k R r m ss log syn vr l) (j:u.heap[p]? = some (.cells cs 71)) (a c a3 a4 a5 d e f:Value) :
  ac (set8 u p a c a3 a4 a5 d e f) i k R.es/\ah (set8 u p a c a3 a4 a5 d e f) i m ss/\Rws (set8 u p a c a3 a4 a5 d e f) i vr l :=
 have g:=y5 u p a c a3 a4 a5 d e f;⟨h.ents.boxT j (by decide) (by decide) g,World.ownsRow.kept h.pages g (ic h.pages j (by decide)),World.ownsRow.kept h.rows g (ic h.rows j (by decide))⟩
theorem ah6 {u:World} {B b t k:Nat} {v x:Value} {os:List Dn} {cs:Array Value}(h:Dos u B v os) (a:u.heap[b]? = some (.cells cs t)) (ht:27≠t):Dos (u.setCell ⟨b,k,none⟩ x) B v os:=World.ownsRow.kept h (d8 u b k x) (ic h a ht)
theorem N8 {w:World} {B:Nat} {vd:Value} {ss:List ByteArray} {pb pl pf pn:Addr} {ty:TypeId} {pv:Value}(r log:ByteArray) (syn:Int) (hr:r.size<=1048576) (bC:log.size<=1048576) (hS:ah w B vd ss) (hz:∀ s ∈ ss,s.size<=1048576) (hl:ss.length<=1048576) (aa:qw ss) (ht:fh w) (hG:fw w ty pv) (hV:Ev7 w pb pl pf pn) :
  Calls prog 38 #[.agg #[.string r,vd,.string log,.int .i64 syn]] w fun e w'=>b39 w (ab r) r ss log syn pb e w':=by
 obtain⟨E,G,c0,_⟩:=gz hS;subst c0;obtain⟨W0,hW⟩:∃ W0,W0=(w.alloc (.cells #[.string r,.slice E ss.length G,.string log,.int .i64 syn] 25)).alloc (.cells #[.slice none 0 0,.bool false,.int .i64 0,.string ⟨#[]⟩,.slice none 0 0,.string ⟨#[]⟩,.int .i64 0,.slice none 0 0] 71):=⟨_,rfl⟩
 have aP:Below w.heap.size w W0:=by rw[hW];exact (bY _).alloc (by simp) _
 have bQ:W0.heap.size=w.heap.size+2:=by rw[hW];simp
 have aQ:Hd7 w W0 r (.slice E ss.length G) log syn:=by
  refine⟨?_,?_,aP⟩
  .show _=_
   rw[hW,Below.heap_alloc _ _ _ (by simp)];exact heap_alloc_new w _
  .have h:=heap_alloc_new (w.alloc (.cells #[.string r,.slice E ss.length G,.string log,.int .i64 syn] 25)) (.cells #[.slice none 0 0,.bool false,.int .i64 0,.string ⟨#[]⟩,.slice none 0 0,.string ⟨#[]⟩,.int .i64 0,.slice none 0 0] 71)
   rw[World.size_alloc]at h;show _=_
   rw[hW];exact h
 have d:Hid (∀ u,Below w.heap.size w u->ah u B (.slice E ss.length G) ss/\fh u/\fw u ty pv/\Ev7 u pb pl pf pn):=fun u hu=>⟨hS.below hu,ht.below hu,(hu.cell (p:=⟨6,0,none⟩) hG.lt).trans hG,hV.below hu⟩
 have RD:=Pd r W0 (d.out W0 aP).2.1 hr;obtain⟨R,hR⟩:∃ R,R=ab r:=⟨_,rfl⟩
 rw[<- hR]at RD ⊢;have al:Hid (R.code=0->bd R.es R.lv=true):=fun h=>by rw[hR]at h ⊢;exact (Cz r h).1
 have HZ:Hid (∀ s ∈ ss,s.size<=1048576):=hz;have an:=hZ aa;have aH:=hZ aQ;have HW:Hid (W0=(w.alloc (.cells #[.string r,.slice E ss.length G,.string log,.int .i64 syn] 25)).alloc (.cells #[.slice none 0 0,.bool false,.int .i64 0,.string ⟨#[]⟩,.slice none 0 0,.string ⟨#[]⟩,.int .i64 0,.slice none 0 0] 71)):=hW;have A:=aQ.disk.facts;obtain⟨aE,d0,d1,d2,d3,df⟩:=A;clear hS hz aa ht hG hV aP aQ hW hR;go_enter func38,ntmps38;go_wp2_with fail;rw[<- HW.out];clear HW;go_wp2_with fail;refine RD.mono ?_;rintro e w1 ⟨v1,rfl,e1,b1⟩;obtain⟨y,z,bT⟩:=Vz e1.ents;subst bT;obtain⟨W1,aC⟩:∃ W1,W1=w1.alloc (.cells #[.slice y R.es.length z,.bool R.sh,.int .i64 R.lv] 56):=⟨_,rfl⟩
 have bA:Below w1.heap.size w1 W1:=by rw[aC];exact bY _
 have aA:Hd7 w W1 r (.slice E ss.length G) log syn:=(aH.out.below b1).below bA;have bs:Hid (lr W1 w1.heap.size (.slice y R.es.length z) R.sh R.lv):=by show _=_;rw[aC];exact heap_alloc_new w1 _
 have bk:=hZ (e1.ents.below bA);have c9:w.heap.size+1<w1.heap.size:=by have:=b1.size;omega
 have be:=hZ aA;have bt:Hid (W1=w1.alloc (.cells #[.slice y R.es.length z,.bool R.sh,.int .i64 R.lv] 56)):=aC;have OB:=N7 (d.out W1 aA.bel).1 HZ.out hl (d.out W1 aA.bel).2.2.1;obtain⟨aE,d0,d1,d2,d3,df⟩:=(aH.out.below b1).disk.facts;clear RD e1 b1 bA aA aC aH;go_wp2_with fail;rw[<- bt.out];refine OB.mono ?_;rintro e w2 ⟨v2,rfl,⟨hN,hn⟩,b2⟩;have ak:=hZ (be.out.below b2);have am:=hZ (bs.out.below b2);have bl:=hZ (bk.out.below b2);clear OB b2 be bs bk bt d0 d1 d2 d3 df aE
 cases hbk:bu ss with
 | none =>
  have b9:=hn hbk;subst b9;have n:Hid (eb R ss log=none):=Gy hbk;have CN:=Gd (sm.nil w2 0 none) (by simp) (by simp);have aW:((none:Option (List (List Rw))).isSome)=false:=rfl;clear hN hn hbk;go_wp2_with fail;refine CN.mono ?_;rintro e w3 ⟨v3,rfl,r3,Z⟩;have a:=hZ (ak.out.below Z);have j:Hid (Ev7 w3 pb pl pf pn):=(d.out w3 a.out.bel).2.2.2;clear CN r3 Z ak;go_upto_region 4 with fail
  by_cases D:R.code=0
  .generalize R.code=cde at *
   subst D;clear d al HZ an aW;have A:=a.out.ans.facts;obtain⟨S,T,U,L,Q,V,t,W,X,Y⟩:=A;have J:=j.out.bad;have a9:=ag J;clear j;go_upto_region 5 with fail
   go_region
   all_goals
    go_wp2;refine bodyPost_ret (v:=.tuple #[zIx,.iface 298 (.pointer (some pb))]) ?_ rfl ⟨?_,?_⟩
    .rw[results_cell_tmp rfl]
     go_simp;rfl
    .rw[n.out]
     exact⟨_,rfl,.inl rfl⟩
    .repeat (first|with_reducible exact a.out.bel|with_reducible refine Below.drew ?_|with_reducible refine Below.setCell ?_ (by show w.heap.size<=w.heap.size+1;omega) _)
  .have aX:(R.code != 0)=true:=by simpa using D
   clear d al HZ an aW;have A:=a.out.ans.facts;obtain⟨S,T,U,L,Q,V,t,W,X,Y⟩:=A;have J:=j.out.bad;have a9:=ag J;clear j;go_upto_region 5 with fail
   go_region
   all_goals
    go_wp2;refine bodyPost_ret (v:=.tuple #[zIx,.iface 298 (.pointer (some pb))]) ?_ rfl ⟨?_,?_⟩
    .rw[results_cell_tmp rfl]
     go_simp;rfl
    .rw[n.out]
     exact⟨_,rfl,.inl rfl⟩
    .repeat (first|with_reducible exact a.out.bel|with_reducible refine Below.drew ?_|with_reducible refine Below.setCell ?_ (by show w.heap.size<=w.heap.size+1;omega) _)
 | some gs =>
  obtain⟨vs,aS⟩:=hN gs hbk;have bO:=xk hbk;have aB:=an.out gs hbk;have CN:=Gd aS.lists7 (by omega) (by omega);obtain⟨F,hF⟩:∃ F,F=gs.flatten:=⟨_,rfl⟩
  have bH:Hid (ig R F=false->eb R ss log=none):=fun h=>H0 hbk (by rw[<- hF];exact h)
  have bp:Hid (R.code=0->ig R F=true->log.size<=6000->eb R ss log=(im log).bind (pr R F)):=fun h0 h N=>by rw[hF]at h ⊢;exact Me hbk h0 h N
  have bK:Hid (ig R F=true->jv R F):=fun h=>by rw[hF]at h ⊢;exact Ka an.out hbk h
  rw[<- hF]at CN aB;obtain⟨L,c2,b9,_⟩:=aS.form;subst b9;have aW:((some gs:Option (List (List Rw))).isSome)=true:=rfl;have bN:Hid (∀ x ∈ F,x.text.size<=200):=fun x hx=>by have:=(aB.2 x hx).1;omega
  have cu:F.length<=60:=aB.1;clear hN hn hbk aS bO aB hF an;go_wp2_with fail;refine CN.mono ?_;rintro e w3 ⟨v3,rfl,r3,Z⟩;obtain⟨a3,c3,bU⟩:=db r3;subst bU;have ay:=hZ (ak.out.below Z);have ae:=hZ (am.out.below Z);have aJ:=hZ (bl.out.below Z);have aM:=hZ r3;have ca:w.heap.size<=w2.heap.size:=ak.out.bel.size;clear CN r3 Z ak am bl;by_cases D:R.code=0
  .have bD:=al.out D
   have bz:Ru7 w3 W0.heap.size (.slice y R.es.length z) R:=⟨aJ.out,bD,(d.out w3 ay.out.bel).2.1⟩;have KD:=a68 (c:=c3) (by omega) bN.out bz (ja aM.out);obtain⟨b0,u0,u1,u2⟩:=ae.out.facts;obtain⟨KB,aR⟩:∃ KB,KB=ig R F:=⟨_,rfl⟩
   rw[<- aR]at KD;have az:Hid (KB=ig R F):=aR;have bc:Hid (R.code=0):=D;go_upto_region 4 with fail
   generalize hcde:R.code=cde;obtain rfl:cde=0:=hcde.symm.trans D;clear bz aR D hcde;go_wp2_with fail;refine KD.mono ?_;rintro e b ⟨rfl,b4⟩;have P:=hZ (ay.out.below b4);have ai:=hZ (ae.out.below b4);have bm:=hZ (aJ.out.below b4);have br:=hZ (aM.out.below b4);clear KD b4 ay ae aJ aM u0 u1 u2 b0
   cases KB
   .have n:Hid (eb R ss log=none):=bH.out az.out.symm
    have a:=P;have j:Hid (Ev7 b pb pl pf pn):=(d.out b a.out.bel).2.2.2;clear d al HZ;have A:=a.out.ans.facts;obtain⟨S,T,U,L,Q,V,t,W,X,Y⟩:=A;have J:=j.out.bad;have a9:=ag J;clear j;go_upto_region 5 with fail
    go_region
    all_goals
     go_wp2;refine bodyPost_ret (v:=.tuple #[zIx,.iface 298 (.pointer (some pb))]) ?_ rfl ⟨?_,?_⟩
     .rw[results_cell_tmp rfl]
      go_simp;rfl
     .rw[n.out]
      exact⟨_,rfl,.inl rfl⟩
     .repeat (first|with_reducible exact a.out.bel|with_reducible refine Below.drew ?_|with_reducible refine Below.setCell ?_ (by show w.heap.size<=w.heap.size+1;omega) _)
   .have bL:Hid (jv R F):=bK.out az.out.symm
    have bx:=fun (u:World) (hu:Below b.heap.size b u)=>Ob r log syn ((d.out u (P.out.bel.trans (hu.mono P.out.bel.size))).1) HZ.out hl hr bC
    obtain⟨b0,u0,u1,u2⟩:=ai.out.facts;obtain⟨aE,d0,d1,d2,d3,df⟩:=P.out.disk.facts;have HA:Hid (Below b.heap.size b (b.alloc (.cells #[.slice none 0 0,.bool false,.int .i64 0,.string ⟨#[]⟩,.slice none 0 0,.string ⟨#[]⟩,.int .i64 0,.slice none 0 0] 71))):=bY _;have cb:w.heap.size+1<b.heap.size:=P.out.ans.lt;have c7:W0.heap.size=w.heap.size+2:=bQ;go_upto_region 6 with fail
    go_cut [9] from 42 to 47 (fun v9 wx=>∃ (M:Nat) (vp:Value),v9=.pointer (some ⟨M,0,none⟩)/\b.heap.size<=M/\Ix7 wx w.heap.size M (.slice y R.es.length z) R r vp ss log syn (.slice a3 F.length c3) F/\Hd7 w wx r (.slice E ss.length G) log syn)
    case first =>
     go_region_law (go_simp;go_at_call 88;refine (bx _ (by repeat (first|exact bX|refine Below.drew ?_|refine Below.alloc ?_ bR _))).mono ?_;rintro e w5 ⟨v5,rfl,s5,f⟩;obtain⟨t,c5,bV,_⟩:=gz s5;subst bV;have z5:Below b.heap.size b w5:=(by first|exact⟨f.os,f.tape,f.output,f.size,f.block⟩|exact HA.out.trans (Below.mono (B:=(b.alloc (.cells #[.slice none 0 0,.bool false,.int .i64 0,.string ⟨#[]⟩,.slice none 0 0,.string ⟨#[]⟩,.int .i64 0,.slice none 0 0] 71)).heap.size) (w:=b.alloc (.cells #[.slice none 0 0,.bool false,.int .i64 0,.string ⟨#[]⟩,.slice none 0 0,.string ⟨#[]⟩,.int .i64 0,.slice none 0 0] 71)) ⟨f.os,f.tape,f.output,f.size,f.block⟩ HA.out.size));obtain⟨bP,cx,u15,u25⟩:=(ai.out.below z5).facts;(try (have x5:jz w5 b.heap.size (.slice none 0 0) false 0 ⟨#[]⟩ (.slice none 0 0) ⟨#[]⟩ 0 (.slice none 0 0):=(ag1 b).below ⟨f.os,f.tape,f.output,f.size,f.block⟩;obtain⟨l5,cg,ch,ci,cj,ck,cl,cn,cq,f5⟩:=x5.facts)))
     all_goals
      have bS:=z5.size;have t5:ah w5 w.heap.size (.slice t ss.length c5) ss:=ji s5 (by first|omega|(simp;omega)|(show w.heap.size<=(b.alloc _).heap.size;simp;omega)|(show w.heap.size<=b.heap.size;omega));have bw:ac w5 w.heap.size (.slice y R.es.length z) R.es:=ac.low (bm.out.below z5) (by omega);have bE:Rws w5 w.heap.size (.slice a3 F.length c3) F:=ff (br.out.below z5) (by omega);have bB:=P.out.below z5;clear s5 f;go_wp2_with fail;go_meet
      case rel=>first
       | (
         have R5:=b73 (r:=r) (log:=log) (syn:=syn) x5 bw t5 bE (show w.heap.size<=b.heap.size by omega);have D5:=bB.set8 cb (.slice y R.es.length z) (.bool R.sh) (.int .i64 R.lv) (.string r) (.slice t ss.length c5) (.string log) (.int .i64 syn) (.slice a3 F.length c3);unfold set8 at R5 D5;exact⟨b.heap.size,.slice t ss.length c5,rfl,bR,R5,D5⟩)
       | (
         have R5:=a67 (r:=r) (log:=log) (syn:=syn) bw t5 bE (show w.heap.size<=w5.heap.size by omega);exact⟨w5.heap.size,.slice t ss.length c5,rfl,bS,R5,bB.below (bY _)⟩)
    case rest =>
     obtain⟨M,vp,bZ,ct,C,H⟩:=hcut;subst bZ;obtain⟨ap,cp,c4,_⟩:=gz C.pages;subst c4;have RL:=H6 log wc bC (ty:=298) (pv:=.pointer (some pb)) (d.out wc H.bel).2.2.2.bad;obtain⟨aU,i0,i1,i2,i3,i4,i5,i6,i7,i8⟩:=C.box.facts;have HI:=hZ C;have HD:=hZ H;clear C H bx u0 u1 u2 b0 d0 d1 d2 d3 df aE HA P ai bm br;go_wp2_with fail;refine RL.mono ?_;clear RL;rintro e w6 (⟨N,m,vo,aw,rfl,I,cv,K⟩|⟨N,aw,rfl,K⟩|⟨N,rfl,K⟩)
     .obtain⟨ao,co,c1⟩:=ah7 I
      subst c1;have aG:Hid (eb R ss log=pr R F m):=by show _=_;rw[bp.out bc.out az.out.symm N,aw];rfl
      have bM:Hid (∀ o ∈ m,o.text.size<=255/\o.val.size<=255):=Uk _ _ _ aw;have bn:=HI.out.below K;have bf:=HD.out.below K;obtain⟨O,aj⟩:∃ O,O=eb R ss log:=⟨_,rfl⟩
      have ba:Hid (O=eb R ss log):=aj;have aN:Hid (at3 w wc M (.slice y R.es.length z) R r (.slice E ss.length G) (.slice ap ss.length cp) ss log syn (.slice ao m.length co) m O (.int .i64 ((0:Nat):Int)) w6):=⟨0,_,F,Nat.zero_le _,rfl,bn,bf,I,bL.out,by rw[aj,aG.out];rfl⟩;clear i0 i1 i2 i3 i4 i5 i6 i7 i8 aU I aw N K bn bf aj HI HD;go_wp2_with fail;go_loopw [60] (fun i wr=>at3 w wc M (.slice y R.es.length z) R r (.slice E ss.length G) (.slice ap ss.length cp) ss log syn (.slice ao m.length co) m O i wr) (fun i _=>m.length-(intOf i).toNat)
      case atStart=>exact aN.out
      case round =>
       obtain⟨k,vr,l,hk,rfl,C,H,I,av,hA⟩:=hrel;obtain⟨ar,cr,c6⟩:=db C.rows;subst c6;by_cases aY:k<m.length
       .obtain⟨o,ho⟩:∃ o,m[k]? = some o:=⟨_,List.getElem?_eq_getElem aY⟩
        obtain⟨g,rfl⟩:∃ g,ao=some ⟨g,0,none⟩:=by
         rcases I.form with ⟨_,h⟩|⟨g,cs,h,_,_⟩
         .rw[h]at aY;simp at aY
         .injection h with h _ _
          exact⟨g,h⟩
        obtain⟨o0,o1,o2⟩:=I.cells k o ho;have cf:=ag o0;have aZ:(k:Int)<(m.length:Int):=by omega
        have cw:=bM.out o (List.mem_of_getElem? ho);have bb:Hid (O=if apC R l o=0 then pr R (apR R l o) (m.drop (k+1)) else none):=by show _=_;rw[<- hA,ab1 ho]
        obtain⟨W7,aD⟩:∃ W7,W7=wr.alloc (.cells #[.int .i64 (kn7 o),.string o.text,.string o.val] 27):=⟨_,rfl⟩
        have b7:Below wr.heap.size wr W7:=by rw[aD];exact bY _
        have au:=C.below b7;have aq:=H.below b7;have RB:=Bp (pb:=pb) (pl:=pl) (pf:=pf) (pn:=pn) o (by omega) (by omega) au.box ⟨au.ents,bD,(d.out W7 aq.bel).2.1⟩ (d.out W7 aq.bel).2.2.2 au.rows av.rise av.len;have bq:Hid (fo W7 wr.heap.size (kn7 o) o.text o.val):=by show _=_;rw[aD];exact heap_alloc_new wr _
        obtain⟨ce,x0,x1,x2⟩:=bq.out.facts;have bo:=hZ au;have bg:=hZ aq;have bj:=hZ (I.below b7);have bI:=hZ av;have bv:Hid (W7=wr.alloc (.cells #[.int .i64 (kn7 o),.string o.text,.string o.val] 27)):=aD;have cc:w.heap.size<=W7.heap.size:=aq.bel.size;clear C H I av hA au aq b7 aD ho;go_wp2_with fail;rw[<- bv.out];clear bv;go_wp2_with fail;refine RB.mono ?_;clear RB;rintro e w8 ⟨ax,b8⟩;have aL:=hZ (bo.out.below b8);have bh:=hZ (bg.out.below b8)
        have aI:=hZ (bj.out.below b8);obtain⟨aV,j0,j1,j2,j3,j4,j5,j6,j7,j8⟩:=aL.out.box.facts;have aT:(apC R l o=0/\∃ v,e=.returned (.tuple #[v,.nilIface])/\Rws w8 W7.heap.size v (apR R l o))\/(apC R l o≠0/\∃ px:Addr,e=.returned (.tuple #[.slice none 0 0,.iface 298 (.pointer (some px))])):=by
         rcases ax with h|⟨h,q⟩|⟨h,q⟩|⟨h,q⟩
         .exact .inl h
         .exact .inr ⟨by rw[h];decide,_,q⟩
         .exact .inr ⟨by rw[h];decide,_,q⟩
         .exact .inr ⟨by rw[h];decide,_,q⟩
        clear ax b8 x0 x1 x2 ce o0 o1 o2 cf bq bo bg bj;rcases aT with ⟨hc,v8,rfl,r8⟩|⟨hc,px,rfl⟩
        .obtain⟨a8,c8,bW⟩:=db r8
         subst bW;have bJ:Hid (Rws w8 w.heap.size (.slice a8 (apR R l o).length c8) (apR R l o)):=ff r8 cc;have aO:Hid (jv R (apR R l o)):=bI.out.step hc;have bF:Hid (pr R (apR R l o) (m.drop (k+1))=O):=by show _=_;rw[bb.out,if_pos hc]
         clear r8 hc;go_wp2;exact⟨⟨k+1,_,_,by omega,by go_num,aL.out.putRows bJ.out,bh.out.set (by omega) _,ah6 aI.out aL.out.box (by decide),aO.out,bF.out⟩,by simp[intOf];omega⟩
        .have n:Hid (eb R ss log=none):=by show _=_;rw[<- ba.out,bb.out,if_neg hc]
         have a:Hid (Hd7 w (w8.setCell ⟨M,7,none⟩ (.slice none 0 0)) r (.slice E ss.length G) log syn):=bh.out.set (by omega) _;have j:Hid (Ev7 (w8.setCell ⟨M,7,none⟩ (.slice none 0 0)) pb pl pf pn):=(d.out _ a.out.bel).2.2.2;clear hc;have A:=a.out.ans.facts;obtain⟨S,T,U,L,Q,V,t,W,X,Y⟩:=A;have J:=j.out.bad;have a9:=ag J;clear j;go_upto_region 15 with fail
         go_region
         all_goals
          go_wp2;refine bodyPost_ret (v:=.tuple #[zIx,.iface 298 (.pointer (some pb))]) ?_ rfl ⟨?_,?_⟩
          .rw[results_cell_tmp rfl]
           go_simp;rfl
          .rw[n.out]
           exact⟨_,rfl,.inl rfl⟩
          .repeat (first|with_reducible exact a.out.bel|with_reducible refine Below.drew ?_|with_reducible refine Below.setCell ?_ (by show w.heap.size<=w.heap.size+1;omega) _)
       .have aZ:¬ (k:Int)<(m.length:Int):=by omega
        have aK:Hid (eb R ss log=some l):=by
         show _=_
         rw[<- ba.out,<- hA,List.drop_eq_nil_of_le (by omega)];rfl
        obtain⟨aV,j0,j1,j2,j3,j4,j5,j6,j7,j8⟩:=C.box.facts;obtain⟨S,T,U,L,Q,V,t,W,X,Y⟩:=H.ans.facts;have aF:Hid _:=au8 C H.ans (.slice y R.es.length z) (.bool R.sh) (.int .i64 R.lv) (.string r) (.slice ap ss.length cp) (.string log) (.int .i64 syn) (.slice ar l.length cr);have bG:Hid _:=tr (p:=w.heap.size+1) H.bel (by omega) (.slice y R.es.length z) (.bool R.sh) (.int .i64 R.lv) (.string r) (.slice ap ss.length cp) (.string log) (.int .i64 syn) (.slice ar l.length cr);clear C H I av hA;go_wp2;refine bodyPost_ret (v:=.tuple #[ixV (.slice y R.es.length z) R r (.slice ap ss.length cp) log syn (.slice ar l.length cr),.nilIface]) ?_ rfl ⟨by rw[aK.out];exact⟨_,_,_,rfl,aF.out.1,aF.out.2.1,aF.out.2.2⟩,bG.out⟩;rw[results_cell_tmp rfl];go_simp;rfl
     .have n:Hid (eb R ss log=none):=by show _=_;rw[bp.out bc.out az.out.symm N,aw];rfl
      have a:=hZ (HD.out.below K);obtain⟨S,T,U,L,Q,V,t,W,X,Y⟩:=a.out.ans.facts;clear i0 i1 i2 i3 i4 i5 i6 i7 i8 aU K HD HI;go_wp2;refine bodyPost_ret (v:=.tuple #[zIx,.iface 98 (.agg #[.int .i64 (cm log:Int)])]) ?_ rfl ⟨by rw[n.out];exact⟨_,rfl,.inr ⟨_,rfl⟩⟩,tr (p:=w.heap.size+1) a.out.bel (by omega) (.slice none 0 0) (.bool false) (.int .i64 0) (.string ⟨#[]⟩) (.slice none 0 0) (.string ⟨#[]⟩) (.int .i64 0) (.slice none 0 0)⟩;rw[results_cell_tmp rfl];go_simp;rfl
     .have n:Hid (eb R ss log=none):=Au N
      have a:=hZ (HD.out.below K);obtain⟨S,T,U,L,Q,V,t,W,X,Y⟩:=a.out.ans.facts;clear i0 i1 i2 i3 i4 i5 i6 i7 i8 aU K HD HI;go_wp2;refine bodyPost_ret (v:=.tuple #[zIx,.iface 298 (.pointer (some pb))]) ?_ rfl ⟨by rw[n.out];exact⟨_,rfl,.inl rfl⟩,tr (p:=w.heap.size+1) a.out.bel (by omega) (.slice none 0 0) (.bool false) (.int .i64 0) (.string ⟨#[]⟩) (.slice none 0 0) (.string ⟨#[]⟩) (.int .i64 0) (.slice none 0 0)⟩;rw[results_cell_tmp rfl];go_simp;rfl
  .have aX:(R.code != 0)=true:=by simpa using D
   have n:Hid (eb R ss log=none):=Gz D;have a:=ay;have j:Hid (Ev7 w3 pb pl pf pn):=(d.out w3 a.out.bel).2.2.2;clear d al HZ D;have A:=a.out.ans.facts;obtain⟨S,T,U,L,Q,V,t,W,X,Y⟩:=A;have J:=j.out.bad;have a9:=ag J;clear j;go_upto_region 5 with fail
   go_region
   all_goals
    go_wp2;refine bodyPost_ret (v:=.tuple #[zIx,.iface 298 (.pointer (some pb))]) ?_ rfl ⟨?_,?_⟩
    .rw[results_cell_tmp rfl]
     go_simp;rfl
    .rw[n.out]
     exact⟨_,rfl,.inl rfl⟩
    .repeat (first|with_reducible exact a.out.bel|with_reducible refine Below.drew ?_|with_reducible refine Below.setCell ?_ (by show w.heap.size<=w.heap.size+1;omega) _)
theorem ze:ya:=by
 intro w B i d h pv c f e g a b;exact N8 d.r d.log d.syn a.ok.rules (Nat.le_trans a.ok.log (by decide)) a.pages a.ok.page a.ok.pages a.ok.side b.tabs b.lack b.errs
end Go.Proofs.YtjbmgghehdemdaaGreatDoor
