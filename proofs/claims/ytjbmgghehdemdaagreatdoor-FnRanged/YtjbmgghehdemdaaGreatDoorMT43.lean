/- IOpen7b -/
import Derived.Test.YtjbmgghehdemdaaGreatDoorMT41
namespace Go.Proofs.YtjbmgghehdemdaaGreatDoor
set_option maxRecDepth 100000
set_option maxHeartbeats 16000000
open _root_.Go.Proofs.Tryz
open Go.RowKit
theorem Ug {w:World} {B:Nat} {v:Value} {es:List Ent}(h:ac w B v es):∃ a c,v=.slice a es.length c:=by
 rcases h.form with ⟨rfl,h0⟩|⟨_,_,rfl,_,_,_,_⟩
 .rw[h0];exact⟨_,_,rfl⟩
 .exact⟨_,_,rfl⟩
theorem a77 (u:World):ny (u.alloc (.cells #[.slice none 0 0,.bool false,.int .i64 0,.string ⟨#[]⟩,.slice none 0 0,.string ⟨#[]⟩,.int .i64 0,.slice none 0 0] 71)) u.heap.size (.slice none 0 0) false 0 ⟨#[]⟩ (.slice none 0 0) ⟨#[]⟩ 0 (.slice none 0 0):=heap_alloc_new u _
theorem au3 {u:World} {lo b:Nat} {ve:Value} {R:RA} {r:ByteArray} {vp:Value} {ss:List ByteArray} {log:ByteArray} {syn:Int} {vr:Value} {l:List Rw}(hb:ny u b (.slice none 0 0) false 0 ⟨#[]⟩ (.slice none 0 0) ⟨#[]⟩ 0 (.slice none 0 0)) (h1:ac u lo ve R.es) (h2:ak u lo vp ss) (h3:Rws u lo vr l) (a0:lo≤b) :
  Ix7 (set8 u b ve (.bool R.sh) (.int .i64 R.lv) (.string r) vp (.string log) (.int .i64 syn) vr) lo b ve R r vp ss log syn vr l :=
 have g:=wg u b ve (.bool R.sh) (.int .i64 R.lv) (.string r) vp (.string log) (.int .i64 syn) vr;⟨Zh rfl hb _ _ _ _ _ _ _ _,h1.boxT hb (by decide) (by decide) g,World.ownsRow.kept h2 g (iw h2 hb (by decide)),World.ownsRow.kept h3 g (iw h3 hb (by decide)),a0⟩
theorem Hd7.set8 {w u:World} {r:ByteArray} {vp:Value} {log:ByteArray} {syn:Int}(h:Hd7 w u r vp log syn){p:Nat}(hb:w.heap.size+1<p) (a b c d e f g k:Value):Hd7 w (set8 u p a b c d e f g k) r vp log syn :=
 (((((((h.set (k:=0) hb a).set (k:=1) hb b).set (k:=2) hb c).set (k:=3) hb d).set (k:=4) hb e).set (k:=5) hb f).set (k:=6) hb g).set (k:=7) hb k
theorem al1 {u:World} {lo b p:Nat} {ve:Value} {R:RA} {r:ByteArray} {vp:Value} {ss:List ByteArray} {log:ByteArray} {syn:Int} {vr:Value} {l:List Rw} {cs:Array Value}(h:Ix7 u lo b ve R r vp ss log syn vr l) (hp:u.heap[p]? = some (.cells cs 71)) (a1 a2 a3 a4 a5 a6 a7 a8:Value) :
  ac (set8 u p a1 a2 a3 a4 a5 a6 a7 a8) lo ve R.es∧ak (set8 u p a1 a2 a3 a4 a5 a6 a7 a8) lo vp ss∧Rws (set8 u p a1 a2 a3 a4 a5 a6 a7 a8) lo vr l :=
 have g:=wg u p a1 a2 a3 a4 a5 a6 a7 a8;⟨h.ents.boxT hp (by decide) (by decide) g,World.ownsRow.kept h.pages g (iw h.pages hp (by decide)),World.ownsRow.kept h.rows g (iw h.rows hp (by decide))⟩
theorem a86 {u:World} {B b t k:Nat} {v x:Value} {os:List Dn} {cs:Array Value}(h:Dos u B v os) (hb:u.heap[b]? = some (.cells cs t)) (ht:27≠t):Dos (u.setCell ⟨b,k,none⟩ x) B v os:=World.ownsRow.kept h (dq u b k x) (iw h hb ht)
theorem Le {w:World} {B:Nat} {vd:Value} {ss:List ByteArray} {pb pl pf pn:Addr} {ty:TypeId} {pv:Value}(r log:ByteArray) (syn:Int) (hr:r.size≤1048576) (bL:log.size≤1048576) (hS:ak w B vd ss) (hz:∀ s ∈ ss,s.size≤1048576) (hl:ss.length≤1048576) (al:q9 ss) (ht:dr w) (hG:f7 w ty pv) (hV:Ev7 w pb pl pf pn) :
  Calls prog 38 #[.agg #[.string r,vd,.string log,.int .i64 syn]] w fun e w'=>ar8 w (aa r) r ss log syn pb e w':=by
 obtain⟨ad,cd,ce,_⟩:=js hS;subst ce;obtain⟨W0,hW⟩:∃ W0,W0=(w.alloc (.cells #[.string r,.slice ad ss.length cd,.string log,.int .i64 syn] 25)).alloc (.cells #[.slice none 0 0,.bool false,.int .i64 0,.string ⟨#[]⟩,.slice none 0 0,.string ⟨#[]⟩,.int .i64 0,.slice none 0 0] 71):=⟨_,rfl⟩
 have aZ:Below w.heap.size w W0:=by rw[hW];exact (bY _).alloc (by simp) _
 have c4:W0.heap.size=w.heap.size+2:=by rw[hW];simp
 have b0:Hd7 w W0 r (.slice ad ss.length cd) log syn:=by
  refine⟨?_,?_,aZ⟩
  .show _=_
   rw[hW,Below.heap_alloc _ _ _ (by simp)];exact heap_alloc_new w _
  .have h:=heap_alloc_new (w.alloc (.cells #[.string r,.slice ad ss.length cd,.string log,.int .i64 syn] 25)) (.cells #[.slice none 0 0,.bool false,.int .i64 0,.string ⟨#[]⟩,.slice none 0 0,.string ⟨#[]⟩,.int .i64 0,.slice none 0 0] 71)
   rw[World.size_alloc]at h;show _=_
   rw[hW];exact h
 have HK:Hid (∀ u,Below w.heap.size w u→ak u B (.slice ad ss.length cd) ss∧dr u∧f7 u ty pv∧Ev7 u pb pl pf pn):=fun u hu=>⟨hS.below hu,ht.below hu,(hu.cell (p:=⟨6,0,none⟩) hG.lt).trans hG,hV.below hu⟩
 have RD:=Ng r W0 (HK.out W0 aZ).2.1 hr;obtain⟨R,hR⟩:∃ R,R=aa r:=⟨_,rfl⟩
 rw[<- hR]at RD ⊢;have aA:Hid (R.code=0→ay R.es R.lv=true):=fun h=>by rw[hR]at h ⊢;exact (B0 r h).1
 have HZ:Hid (∀ s ∈ ss,s.size≤1048576):=hz;have aC:Hid (q9 ss):=al;have aR:Hid (Hd7 w W0 r (.slice ad ss.length cd) log syn):=b0;have HW:Hid (W0=(w.alloc (.cells #[.string r,.slice ad ss.length cd,.string log,.int .i64 syn] 25)).alloc (.cells #[.slice none 0 0,.bool false,.int .i64 0,.string ⟨#[]⟩,.slice none 0 0,.string ⟨#[]⟩,.int .i64 0,.slice none 0 0] 71)):=hW;have a9:=b0.disk.facts;obtain⟨aO,d0,d1,d2,d3,df⟩:=a9;clear hS hz al ht hG hV aZ b0 hW hR;go_enter func38,ntmps38;go_wp2_with fail;rw[<- HW.out];clear HW;go_wp2_with fail;refine RD.mono ?_;rintro e w1 ⟨v1,rfl,e1,b1⟩;obtain⟨va,vc,c7⟩:=Ug e1.ents;subst c7;obtain⟨W1,aM⟩:∃ W1,W1=w1.alloc (.cells #[.slice va R.es.length vc,.bool R.sh,.int .i64 R.lv] 56):=⟨_,rfl⟩
 have bA:Below w1.heap.size w1 W1:=by rw[aM];exact bY _
 have aK:Hd7 w W1 r (.slice ad ss.length cd) log syn:=(aR.out.below b1).below bA;have bE:Hid (jf W1 w1.heap.size (.slice va R.es.length vc) R.sh R.lv):=by show _=_;rw[aM];exact heap_alloc_new w1 _
 have bt:Hid (ac W1 W0.heap.size (.slice va R.es.length vc) R.es):=e1.ents.below bA;have ci:w.heap.size+1<w1.heap.size:=by have:=b1.size;omega
 have bo:Hid (Hd7 w W1 r (.slice ad ss.length cd) log syn):=aK;have bF:Hid (W1=w1.alloc (.cells #[.slice va R.es.length vc,.bool R.sh,.int .i64 R.lv] 56)):=aM;have OB:=Ld (HK.out W1 aK.bel).1 HZ.out hl (HK.out W1 aK.bel).2.2.1;obtain⟨aO,d0,d1,d2,d3,df⟩:=(aR.out.below b1).disk.facts;clear RD e1 b1 bA aK aM aR;go_wp2_with fail;rw[<- bF.out];refine OB.mono ?_;rintro e w2 ⟨v2,rfl,⟨hN,hn⟩,b2⟩;have az:Hid (Hd7 w w2 r (.slice ad ss.length cd) log syn):=bo.out.below b2;have aB:Hid (jf w2 w1.heap.size (.slice va R.es.length vc) R.sh R.lv):=bE.out.below b2;have bu:Hid (ac w2 W0.heap.size (.slice va R.es.length vc) R.es):=bt.out.below b2;clear OB b2 bo bE bt bF d0 d1 d2 d3 df aO
 cases hbk:ca ss with
 | none =>
  have bk:=hn hbk;subst bk;have HN:Hid (dx R ss log=none):=Ex hbk;have CN:=Ee (qu.nil w2 0 none) (by simp) (by simp);have be:((none:Option (List (List Rw))).isSome)=false:=rfl;clear hN hn hbk;go_wp2_with fail;refine CN.mono ?_;rintro e w3 ⟨v3,rfl,r3,b3⟩;have HH:Hid (Hd7 w w3 r (.slice ad ss.length cd) log syn):=az.out.below b3;have ab:Hid (Ev7 w3 pb pl pf pn):=(HK.out w3 HH.out.bel).2.2.2;clear CN r3 b3 az;go_upto_region 4 with fail
  by_cases ae:R.code=0
  .generalize R.code=cde at *
   subst ae;clear HK aA HZ aC be;have a9:=HH.out.ans.facts;obtain⟨ax,a0,a1,a2,av,a4,a5,a6,a7,af⟩:=a9;have ai:=ab.out.bad;have aj:=ag ai;clear ab;go_upto_region 5 with fail
   go_region
   all_goals
    go_wp2;refine bodyPost_ret (v:=.tuple #[zIx,.iface 298 (.pointer (some pb))]) ?_ rfl ⟨?_,?_⟩
    .rw[results_cell_tmp rfl]
     go_simp;rfl
    .rw[HN.out]
     exact⟨_,rfl,.inl rfl⟩
    .repeat (first|with_reducible exact HH.out.bel|with_reducible refine Below.drew ?_|with_reducible refine Below.setCell ?_ (by show w.heap.size≤w.heap.size+1;omega) _)
  .have bf:(R.code != 0)=true:=by simpa using ae
   clear HK aA HZ aC be;have a9:=HH.out.ans.facts;obtain⟨ax,a0,a1,a2,av,a4,a5,a6,a7,af⟩:=a9;have ai:=ab.out.bad;have aj:=ag ai;clear ab;go_upto_region 5 with fail
   go_region
   all_goals
    go_wp2;refine bodyPost_ret (v:=.tuple #[zIx,.iface 298 (.pointer (some pb))]) ?_ rfl ⟨?_,?_⟩
    .rw[results_cell_tmp rfl]
     go_simp;rfl
    .rw[HN.out]
     exact⟨_,rfl,.inl rfl⟩
    .repeat (first|with_reducible exact HH.out.bel|with_reducible refine Below.drew ?_|with_reducible refine Below.setCell ?_ (by show w.heap.size≤w.heap.size+1;omega) _)
 | some gs =>
  obtain⟨vs,ba⟩:=hN gs hbk;have c0:=uz hbk;have aL:=aC.out gs hbk;have CN:=Ee ba.lists7 (by omega) (by omega);obtain⟨F,hF⟩:∃ F,F=gs.flatten:=⟨_,rfl⟩
  have bQ:Hid (iy R F=false→dx R ss log=none):=fun h=>Ez hbk (by rw[<- hF];exact h)
  have bB:Hid (R.code=0→iy R F=true→log.size≤6000→dx R ss log=(jd log).bind (oq R F)):=fun h0 h h6=>by rw[hF]at h ⊢;exact Kp hbk h0 h h6
  have bU:Hid (iy R F=true→im R F):=fun h=>by rw[hF]at h ⊢;exact I0 aC.out hbk h
  rw[<- hF]at CN aL;obtain⟨a2,c2,bk,_⟩:=ba.form;subst bk;have be:((some gs:Option (List (List Rw))).isSome)=true:=rfl;have bZ:Hid (∀ x ∈ F,x.text.size≤200):=fun x hx=>by have:=(aL.2 x hx).1;omega
  have cB:F.length≤60:=aL.1;clear hN hn hbk ba c0 aL hF aC;go_wp2_with fail;refine CN.mono ?_;rintro e w3 ⟨v3,rfl,r3,b3⟩;obtain⟨a3,c3,c9⟩:=bz r3;subst c9;have aI:Hid (Hd7 w w3 r (.slice ad ss.length cd) log syn):=az.out.below b3;have aq:Hid (jf w3 w1.heap.size (.slice va R.es.length vc) R.sh R.lv):=aB.out.below b3;have aT:Hid (ac w3 W0.heap.size (.slice va R.es.length vc) R.es):=bu.out.below b3;have aW:Hid (Rws w3 w2.heap.size (.slice a3 F.length c3) F):=r3;have cj:w.heap.size≤w2.heap.size:=az.out.bel.size;clear CN r3 b3 az aB bu;by_cases ae:R.code=0
  .have bM:=aA.out ae
   have bJ:Ru7 w3 W0.heap.size (.slice va R.es.length vc) R:=⟨aT.out,bM,(HK.out w3 aI.out.bel).2.1⟩;have KD:=Zn (c:=c3) (by omega) bZ.out bJ (ew aW.out);obtain⟨bj,u0,u1,u2⟩:=aq.out.facts;obtain⟨KB,b9⟩:∃ KB,KB=iy R F:=⟨_,rfl⟩
   rw[<- b9]at KD;have aJ:Hid (KB=iy R F):=b9;have bn:Hid (R.code=0):=ae;go_upto_region 4 with fail
   generalize hcde:R.code=cde;obtain rfl:cde=0:=hcde.symm.trans ae;clear bJ b9 ae hcde;go_wp2_with fail;refine KD.mono ?_;rintro e w4 ⟨rfl,b4⟩;have an:Hid (Hd7 w w4 r (.slice ad ss.length cd) log syn):=aI.out.below b4;have au:Hid (jf w4 w1.heap.size (.slice va R.es.length vc) R.sh R.lv):=aq.out.below b4;have bv:Hid (ac w4 W0.heap.size (.slice va R.es.length vc) R.es):=aT.out.below b4;have bD:Hid (Rws w4 w2.heap.size (.slice a3 F.length c3) F):=aW.out.below b4;clear KD b4 aI aq aT aW u0 u1 u2 bj
   cases KB
   .have HN:Hid (dx R ss log=none):=bQ.out aJ.out.symm
    have HH:=an;have ab:Hid (Ev7 w4 pb pl pf pn):=(HK.out w4 HH.out.bel).2.2.2;clear HK aA HZ;have a9:=HH.out.ans.facts;obtain⟨ax,a0,a1,a2,av,a4,a5,a6,a7,af⟩:=a9;have ai:=ab.out.bad;have aj:=ag ai;clear ab;go_upto_region 5 with fail
    go_region
    all_goals
     go_wp2;refine bodyPost_ret (v:=.tuple #[zIx,.iface 298 (.pointer (some pb))]) ?_ rfl ⟨?_,?_⟩
     .rw[results_cell_tmp rfl]
      go_simp;rfl
     .rw[HN.out]
      exact⟨_,rfl,.inl rfl⟩
     .repeat (first|with_reducible exact HH.out.bel|with_reducible refine Below.drew ?_|with_reducible refine Below.setCell ?_ (by show w.heap.size≤w.heap.size+1;omega) _)
   .have bV:Hid (im R F):=bU.out aJ.out.symm
    have bI:=fun (u:World) (hu:Below w4.heap.size w4 u)=>Mj r log syn ((HK.out u (an.out.bel.trans (hu.mono an.out.bel.size))).1) HZ.out hl hr bL
    obtain⟨bj,u0,u1,u2⟩:=au.out.facts;obtain⟨aO,d0,d1,d2,d3,df⟩:=an.out.disk.facts;have HA:Hid (Below w4.heap.size w4 (w4.alloc (.cells #[.slice none 0 0,.bool false,.int .i64 0,.string ⟨#[]⟩,.slice none 0 0,.string ⟨#[]⟩,.int .i64 0,.slice none 0 0] 71))):=bY _;have ck:w.heap.size+1<w4.heap.size:=an.out.ans.lt;have ch:W0.heap.size=w.heap.size+2:=c4;go_upto_region 6 with fail
    go_cut [9] from 42 to 47 (fun v9 wx=>∃ (bi:Nat) (vp:Value),v9=.pointer (some ⟨bi,0,none⟩)∧w4.heap.size≤bi∧Ix7 wx w.heap.size bi (.slice va R.es.length vc) R r vp ss log syn (.slice a3 F.length c3) F∧Hd7 w wx r (.slice ad ss.length cd) log syn)
    case first =>
     go_region_law (go_simp;go_at_call 88;refine (bI _ (by repeat (first|exact bX|refine Below.drew ?_|refine Below.alloc ?_ bR _))).mono ?_;rintro e w5 ⟨v5,rfl,s5,b5⟩;obtain⟨a5,c5,cb,_⟩:=js s5;subst cb;have z5:Below w4.heap.size w4 w5:=(by first|exact⟨b5.os,b5.tape,b5.output,b5.size,b5.block⟩|exact HA.out.trans (Below.mono (B:=(w4.alloc (.cells #[.slice none 0 0,.bool false,.int .i64 0,.string ⟨#[]⟩,.slice none 0 0,.string ⟨#[]⟩,.int .i64 0,.slice none 0 0] 71)).heap.size) (w:=w4.alloc (.cells #[.slice none 0 0,.bool false,.int .i64 0,.string ⟨#[]⟩,.slice none 0 0,.string ⟨#[]⟩,.int .i64 0,.slice none 0 0] 71)) ⟨b5.os,b5.tape,b5.output,b5.size,b5.block⟩ HA.out.size));obtain⟨c1,cE,cF,cG⟩:=(au.out.below z5).facts;(try (have x5:ny w5 w4.heap.size (.slice none 0 0) false 0 ⟨#[]⟩ (.slice none 0 0) ⟨#[]⟩ 0 (.slice none 0 0):=(a77 w4).below ⟨b5.os,b5.tape,b5.output,b5.size,b5.block⟩;obtain⟨l5,cq,cs,ct,cu,cv,cw,cx,cy,f5⟩:=x5.facts)))
     all_goals
      have c6:=z5.size;have t5:ak w5 w.heap.size (.slice a5 ss.length c5) ss:=kq s5 (by first|omega|(simp;omega)|(show w.heap.size≤(w4.alloc _).heap.size;simp;omega)|(show w.heap.size≤w4.heap.size;omega));have bH:ac w5 w.heap.size (.slice va R.es.length vc) R.es:=ac.low (bv.out.below z5) (by omega);have bN:Rws w5 w.heap.size (.slice a3 F.length c3) F:=cz (bD.out.below z5) (by omega);have bK:=an.out.below z5;clear s5 b5;go_wp2_with fail;go_meet
      case rel=>first
       | (
         have R5:=au3 (r:=r) (log:=log) (syn:=syn) x5 bH t5 bN (show w.heap.size≤w4.heap.size by omega);have D5:=bK.set8 ck (.slice va R.es.length vc) (.bool R.sh) (.int .i64 R.lv) (.string r) (.slice a5 ss.length c5) (.string log) (.int .i64 syn) (.slice a3 F.length c3);unfold set8 at R5 D5;exact⟨w4.heap.size,.slice a5 ss.length c5,rfl,bR,R5,D5⟩)
       | (
         have R5:=Nn (r:=r) (log:=log) (syn:=syn) bH t5 bN (show w.heap.size≤w5.heap.size by omega);exact⟨w5.heap.size,.slice a5 ss.length c5,rfl,c6,R5,bK.below (bY _)⟩)
    case rest =>
     obtain⟨bi,vp,cc,cA,hI,hD⟩:=hcut;subst cc;obtain⟨ap,cp,cf,_⟩:=js hI.pages;subst cf;have RL:=Rn log wc bL (ty:=298) (pv:=.pointer (some pb)) (HK.out wc hD.bel).2.2.2.bad;obtain⟨bc,i0,i1,i2,i3,i4,i5,i6,i7,i8⟩:=hI.box.facts;have HI:Hid (Ix7 wc w.heap.size bi (.slice va R.es.length vc) R r (.slice ap ss.length cp) ss log syn (.slice a3 F.length c3) F):=hI;have HD:Hid (Hd7 w wc r (.slice ad ss.length cd) log syn):=hD;clear hI hD bI u0 u1 u2 bj d0 d1 d2 d3 df aO HA an au bv bD;go_wp2_with fail;refine RL.mono ?_;clear RL;rintro e w6 (⟨h6,os,vo,aG,rfl,ah,cC,b6⟩|⟨h6,aG,rfl,b6⟩|⟨h6,rfl,b6⟩)
     .obtain⟨ao,co,hvo⟩:=a87 ah
      subst hvo;have aQ:Hid (dx R ss log=oq R F os):=by show _=_;rw[bB.out bn.out aJ.out.symm h6,aG];rfl
      have bW:Hid (∀ o ∈ os,o.text.size≤255∧o.val.size≤255):=Sz _ _ _ aG;have bw:=HI.out.below b6;have bp:=HD.out.below b6;obtain⟨am,aw⟩:∃ am,am=dx R ss log:=⟨_,rfl⟩
      have bl:Hid (am=dx R ss log):=aw;have aX:Hid (aj6 w wc bi (.slice va R.es.length vc) R r (.slice ad ss.length cd) (.slice ap ss.length cp) ss log syn (.slice ao os.length co) os am (.int .i64 ((0:Nat):Int)) w6):=⟨0,_,F,Nat.zero_le _,rfl,bw,bp,ah,bV.out,by rw[aw,aQ.out];rfl⟩;clear i0 i1 i2 i3 i4 i5 i6 i7 i8 bc ah aG h6 b6 bw bp aw HI HD;go_wp2_with fail;go_loopw [60] (fun i wr=>aj6 w wc bi (.slice va R.es.length vc) R r (.slice ad ss.length cd) (.slice ap ss.length cp) ss log syn (.slice ao os.length co) os am i wr) (fun i _=>os.length-(intOf i).toNat)
      case atStart=>exact aX.out
      case round =>
       obtain⟨k,vr,l,hk,rfl,hI,hD,ah,aF,hA⟩:=hrel;obtain⟨ar,cr,cg⟩:=bz hI.rows;subst cg;by_cases bg:k<os.length
       .obtain⟨o,ho⟩:∃ o,os[k]? = some o:=⟨_,List.getElem?_eq_getElem bg⟩
        obtain⟨g,rfl⟩:∃ g,ao=some ⟨g,0,none⟩:=by
         rcases ah.form with ⟨_,h⟩|⟨g,cap,h,_,_⟩
         .rw[h]at bg;simp at bg
         .injection h with h _ _
          exact⟨g,h⟩
        obtain⟨o0,o1,o2⟩:=ah.cells k o ho;have cn:=ag o0;have bh:(k:Int)<(os.length:Int):=by omega
        have cD:=bW.out o (List.mem_of_getElem? ho);have bm:Hid (am=if apC R l o=0 then oq R (apR R l o) (os.drop (k+1)) else none):=by show _=_;rw[<- hA,a29 ho]
        obtain⟨W7,aN⟩:∃ W7,W7=wr.alloc (.cells #[.int .i64 (kn7 o),.string o.text,.string o.val] 27):=⟨_,rfl⟩
        have b7:Below wr.heap.size wr W7:=by rw[aN];exact bY _
        have aE:=hI.below b7;have aD:=hD.below b7;have RB:=J5 (pb:=pb) (pl:=pl) (pf:=pf) (pn:=pn) o (by omega) (by omega) aE.box ⟨aE.ents,bM,(HK.out W7 aD.bel).2.1⟩ (HK.out W7 aD.bel).2.2.2 aE.rows aF.rise aF.len;have bC:Hid (gi W7 wr.heap.size (kn7 o) o.text o.val):=by show _=_;rw[aN];exact heap_alloc_new wr _
        obtain⟨cm,x0,x1,x2⟩:=bC.out.facts;have bx:Hid (Ix7 W7 w.heap.size bi (.slice va R.es.length vc) R r (.slice ap ss.length cp) ss log syn (.slice ar l.length cr) l):=aE;have bq:Hid (Hd7 w W7 r (.slice ad ss.length cd) log syn):=aD;have bs:Hid (Dos W7 wc.heap.size (.slice (some ⟨g,0,none⟩) os.length co) os):=ah.below b7;have bS:Hid (im R l):=aF;have bG:Hid (W7=wr.alloc (.cells #[.int .i64 (kn7 o),.string o.text,.string o.val] 27)):=aN;have cl:w.heap.size≤W7.heap.size:=aD.bel.size;clear hI hD ah aF hA aE aD b7 aN ho;go_wp2_with fail;rw[<- bG.out];clear bG;go_wp2_with fail;refine RB.mono ?_;clear RB;rintro e w8 ⟨aH,b8⟩;have aV:Hid (Ix7 w8 w.heap.size bi (.slice va R.es.length vc) R r (.slice ap ss.length cp) ss log syn (.slice ar l.length cr) l):=bx.out.below b8;have br:Hid (Hd7 w w8 r (.slice ad ss.length cd) log syn):=bq.out.below b8
        have aS:Hid (Dos w8 wc.heap.size (.slice (some ⟨g,0,none⟩) os.length co) os):=bs.out.below b8;obtain⟨bd,j0,j1,j2,j3,j4,j5,j6,j7,j8⟩:=aV.out.box.facts;have bb:(apC R l o=0∧∃ v,e=.returned (.tuple #[v,.nilIface])∧Rws w8 W7.heap.size v (apR R l o))∨(apC R l o≠0∧∃ px:Addr,e=.returned (.tuple #[.slice none 0 0,.iface 298 (.pointer (some px))])):=by
         rcases aH with h|⟨h,q⟩|⟨h,q⟩|⟨h,q⟩
         .exact .inl h
         .exact .inr ⟨by rw[h];decide,_,q⟩
         .exact .inr ⟨by rw[h];decide,_,q⟩
         .exact .inr ⟨by rw[h];decide,_,q⟩
        clear aH b8 x0 x1 x2 cm o0 o1 o2 cn bC bx bq bs;rcases bb with ⟨hc,v8,rfl,r8⟩|⟨hc,px,rfl⟩
        .obtain⟨a8,c8,hv8⟩:=bz r8
         subst hv8;have bT:Hid (Rws w8 w.heap.size (.slice a8 (apR R l o).length c8) (apR R l o)):=cz r8 cl;have aY:Hid (im R (apR R l o)):=bS.out.step hc;have bO:Hid (oq R (apR R l o) (os.drop (k+1))=am):=by show _=_;rw[bm.out,if_pos hc]
         clear r8 hc;go_wp2;exact⟨⟨k+1,_,_,by omega,by go_num,aV.out.putRows bT.out,br.out.set (by omega) _,a86 aS.out aV.out.box (by decide),aY.out,bO.out⟩,by simp[intOf];omega⟩
        .have HN:Hid (dx R ss log=none):=by show _=_;rw[<- bl.out,bm.out,if_neg hc]
         have HH:Hid (Hd7 w (w8.setCell ⟨bi,7,none⟩ (.slice none 0 0)) r (.slice ad ss.length cd) log syn):=br.out.set (by omega) _;have ab:Hid (Ev7 (w8.setCell ⟨bi,7,none⟩ (.slice none 0 0)) pb pl pf pn):=(HK.out _ HH.out.bel).2.2.2;clear hc;have a9:=HH.out.ans.facts;obtain⟨ax,a0,a1,a2,av,a4,a5,a6,a7,af⟩:=a9;have ai:=ab.out.bad;have aj:=ag ai;clear ab;go_upto_region 15 with fail
         go_region
         all_goals
          go_wp2;refine bodyPost_ret (v:=.tuple #[zIx,.iface 298 (.pointer (some pb))]) ?_ rfl ⟨?_,?_⟩
          .rw[results_cell_tmp rfl]
           go_simp;rfl
          .rw[HN.out]
           exact⟨_,rfl,.inl rfl⟩
          .repeat (first|with_reducible exact HH.out.bel|with_reducible refine Below.drew ?_|with_reducible refine Below.setCell ?_ (by show w.heap.size≤w.heap.size+1;omega) _)
       .have bh:¬ (k:Int)<(os.length:Int):=by omega
        have aU:Hid (dx R ss log=some l):=by
         show _=_
         rw[<- bl.out,<- hA,List.drop_eq_nil_of_le (by omega)];rfl
        obtain⟨bd,j0,j1,j2,j3,j4,j5,j6,j7,j8⟩:=hI.box.facts;obtain⟨ax,a0,a1,a2,av,a4,a5,a6,a7,af⟩:=hD.ans.facts;have aP:Hid _:=al1 hI hD.ans (.slice va R.es.length vc) (.bool R.sh) (.int .i64 R.lv) (.string r) (.slice ap ss.length cp) (.string log) (.int .i64 syn) (.slice ar l.length cr);have bP:Hid _:=ro (p:=w.heap.size+1) hD.bel (by omega) (.slice va R.es.length vc) (.bool R.sh) (.int .i64 R.lv) (.string r) (.slice ap ss.length cp) (.string log) (.int .i64 syn) (.slice ar l.length cr);clear hI hD ah aF hA;go_wp2;refine bodyPost_ret (v:=.tuple #[ixV (.slice va R.es.length vc) R r (.slice ap ss.length cp) log syn (.slice ar l.length cr),.nilIface]) ?_ rfl ⟨by rw[aU.out];exact⟨_,_,_,rfl,aP.out.1,aP.out.2.1,aP.out.2.2⟩,bP.out⟩;rw[results_cell_tmp rfl];go_simp;rfl
     .have HN:Hid (dx R ss log=none):=by show _=_;rw[bB.out bn.out aJ.out.symm h6,aG];rfl
      have HH:Hid (Hd7 w w6 r (.slice ad ss.length cd) log syn):=HD.out.below b6;obtain⟨ax,a0,a1,a2,av,a4,a5,a6,a7,af⟩:=HH.out.ans.facts;clear i0 i1 i2 i3 i4 i5 i6 i7 i8 bc b6 HD HI;go_wp2;refine bodyPost_ret (v:=.tuple #[zIx,.iface 98 (.agg #[.int .i64 (jm log:Int)])]) ?_ rfl ⟨by rw[HN.out];exact⟨_,rfl,.inr ⟨_,rfl⟩⟩,ro (p:=w.heap.size+1) HH.out.bel (by omega) (.slice none 0 0) (.bool false) (.int .i64 0) (.string ⟨#[]⟩) (.slice none 0 0) (.string ⟨#[]⟩) (.int .i64 0) (.slice none 0 0)⟩;rw[results_cell_tmp rfl];go_simp;rfl
     .have HN:Hid (dx R ss log=none):=F4 h6
      have HH:Hid (Hd7 w w6 r (.slice ad ss.length cd) log syn):=HD.out.below b6;obtain⟨ax,a0,a1,a2,av,a4,a5,a6,a7,af⟩:=HH.out.ans.facts;clear i0 i1 i2 i3 i4 i5 i6 i7 i8 bc b6 HD HI;go_wp2;refine bodyPost_ret (v:=.tuple #[zIx,.iface 298 (.pointer (some pb))]) ?_ rfl ⟨by rw[HN.out];exact⟨_,rfl,.inl rfl⟩,ro (p:=w.heap.size+1) HH.out.bel (by omega) (.slice none 0 0) (.bool false) (.int .i64 0) (.string ⟨#[]⟩) (.slice none 0 0) (.string ⟨#[]⟩) (.int .i64 0) (.slice none 0 0)⟩;rw[results_cell_tmp rfl];go_simp;rfl
  .have bf:(R.code != 0)=true:=by simpa using ae
   have HN:Hid (dx R ss log=none):=Ey ae;have HH:=aI;have ab:Hid (Ev7 w3 pb pl pf pn):=(HK.out w3 HH.out.bel).2.2.2;clear HK aA HZ ae;have a9:=HH.out.ans.facts;obtain⟨ax,a0,a1,a2,av,a4,a5,a6,a7,af⟩:=a9;have ai:=ab.out.bad;have aj:=ag ai;clear ab;go_upto_region 5 with fail
   go_region
   all_goals
    go_wp2;refine bodyPost_ret (v:=.tuple #[zIx,.iface 298 (.pointer (some pb))]) ?_ rfl ⟨?_,?_⟩
    .rw[results_cell_tmp rfl]
     go_simp;rfl
    .rw[HN.out]
     exact⟨_,rfl,.inl rfl⟩
    .repeat (first|with_reducible exact HH.out.bel|with_reducible refine Below.drew ?_|with_reducible refine Below.setCell ?_ (by show w.heap.size≤w.heap.size+1;omega) _)
theorem Oc:Di:=by
 intro w B vd d ty pv pb pl pf pn hD hE;exact Le d.r d.log d.syn hD.ok.rules (Nat.le_trans hD.ok.log (by decide)) hD.pages hD.ok.page hD.ok.pages hD.ok.side hE.tabs hE.lack hE.errs
end Go.Proofs.YtjbmgghehdemdaaGreatDoor
