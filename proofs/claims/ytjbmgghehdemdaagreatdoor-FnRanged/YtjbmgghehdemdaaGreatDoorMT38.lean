/- SDo7 -/
import Derived.Test.YtjbmgghehdemdaaGreatDoorMT37
namespace Go.Proofs.YtjbmgghehdemdaaGreatDoor
set_option maxRecDepth 100000
set_option maxHeartbeats 16000000
open _root_.Go.Proofs.Tryz
open Go.RowKit
theorem ag8 {w:World} {B c:Nat} {a:Option Addr} {l:List Rw}(h:Rws w B (.slice a l.length c) l):l.length≤c∧c≤9223372036854775807:=by
 rcases h.form with ⟨h1,h2⟩|⟨g,cap,h1,h2,h3⟩
 .injection h1 with _ _ h3
  subst h3;subst h2;exact⟨bR,by omega⟩
 .injection h1 with _ _ h4
  subst h4;exact⟨h2,by unfold maxLen at h3;exact h3⟩
theorem W2 {w:World} {B c:Nat} {a:Option Addr} {l:List Rw}(hr:Rws w B (.slice a l.length c) l) (hg:dm l=true) :
  Calls prog 36 #[.slice a l.length c] w fun e w'=>∃ v,e=.returned (.tuple #[v,.bool (pu l).isSome])∧(∀ pp,pu l=some pp→ak w' w.heap.size v pp)∧Below w.heap.size w w':=by
 obtain⟨h1,h2⟩:=ag8 hr;refine (Ru (ew hr) hg h1 h2).mono fun e w' ⟨v,he,hs,hb⟩=>⟨v,?_,fun pp hp=>?_,hb⟩
 .rw[he,<- Ip hg]
  cases hc:ur l with
  | none=>rw[zd hc];rfl
  | some gs=>rw[ze hc];rfl
 .cases hc:ur l with
  | none=>rw[zd hc]at hp;cases hp
  | some gs =>
   rw[ze hc]at hp;obtain⟨_,a0⟩:=Sm hc;have a2:scF [] l=some gs:=a80 (by rw[<- Ip hg];exact hc);have a1:gs.map pgT=gs.map pbT:=List.map_congr_left fun g hgm=>(a14 (a0 g hgm)).symm
   have s2:=hs gs a2;rw[a1]at s2
   cases hp
   exact s2
def Bw (w:World) (P:Int × Ds7) (e:Ending) (w':World):Prop :=
 ∃ vp,e=.returned (.tuple #[.agg #[.string P.2.r,vp,.string P.2.log,.int .i64 P.2.syn],.int .i64 P.1])∧ak w' w.heap.size vp P.2.ss∧Below w.heap.size w w'
theorem Ah {d:Ds7} {k:Int} {x v:ByteArray}(h:fu d=none):do7 d k x v=(1,zD7):=by unfold do7;rw[h]
theorem qn {d:Ds7} {l:List Rw} {k:Int} {x v:ByteArray}(h:fu d=some l) (hb:¬ (ov d && Am k x v)=true):do7 d k x v=(1,zD7):=by
 unfold do7;rw[h];show (if _ then _ else _)=_
 rw[if_neg hb]
theorem Fk {d:Ds7} {l:List Rw} {k:Int} {x v:ByteArray}(h:fu d=some l) (hs:ov d=true) (hg:Am k x v=true):do7 d k x v=doL d l k x v:=by
 unfold do7;rw[h];show (if _ then _ else _)=_
 rw[if_pos (by rw[hs,hg];rfl)]
theorem Jq {d:Ds7} {l:List Rw} {k:Int} {x v:ByteArray}(h3:k≠3) (h4:k≠4):doL d l k x v=((wrC (aa d.r) l d.log (dn7 k x v)).1,{ d with log:=(wrC (aa d.r) l d.log (dn7 k x v)).2 }):=by
 unfold doL wrC;rw[if_neg h3,if_neg h4];split
 .split <;> rfl
 .rfl
structure Hd9 (w u:World) (br:Nat) (d:Ds7) (vp ve vr:Value) (R:RA) (l:List Rw) (k:Int) (x v:ByteArray):Prop where
 disk:ba u w.heap.size d.r vp d.log d.syn
 dob:gi u (w.heap.size+1) k x v
 ans:ba u (w.heap.size+2) ⟨#[]⟩ (.slice none 0 0) ⟨#[]⟩ 0
 rul:jf u br ve R.sh R.lv
 ents:ac u w.heap.size ve R.es
 rows:Rws u w.heap.size vr l
 bel:Below w.heap.size w u
 hbr:w.heap.size+2<br
theorem Hd9.below {w u u':World} {br:Nat} {d:Ds7} {vp ve vr:Value} {R:RA} {l:List Rw} {k:Int} {x v:ByteArray}(h:Hd9 w u br d vp ve vr R l k x v) (hb:Below u.heap.size u u'):Hd9 w u' br d vp ve vr R l k x v :=
 ⟨h.disk.below hb,h.dob.below hb,h.ans.below hb,h.rul.below hb,h.ents.below hb,h.rows.below hb,h.bel.trans (hb.mono h.bel.size),h.hbr⟩
theorem em {u u':World} {p q:Nat} {cs:Array Value} {t:TypeId}(g:u.grownBy u' (some q)) (hp:p≠q) (h:u.heap[p]? = some (.cells cs t (0,0))):u'.heap[p]? = some (.cells cs t (0,0)) :=
 (g.block p (Array.getElem?_eq_some_iff.1 h).1 (fun e=>hp (Option.some.inj e))).trans h
theorem Hd9.own {w u:World} {br:Nat} {d:Ds7} {vp ve vr:Value} {R:RA} {l:List Rw} {k:Int} {x v:ByteArray}(h:Hd9 w u br d vp ve vr R l k x v) (a0:Value):Hd9 w (s4D u w.heap.size (.string d.r) a0 (.string d.log) (.int .i64 d.syn)) br d a0 ve vr R l k x v :=
 have g:=lu u w.heap.size (.string d.r) a0 (.string d.log) (.int .i64 d.syn);have hbr:=h.hbr;⟨Iu h.disk _ _ _ _,em g (by omega) h.dob,em g (by omega) h.ans,em g (by omega) h.rul,h.ents.boxT h.disk (by decide) (by decide) g,h.rows.box h.disk (by decide) g,jk h.bel bR _ _ _ _,h.hbr⟩
theorem ki {w u:World} {vp:Value} {ss:List ByteArray}(ha:ba u (w.heap.size+2) ⟨#[]⟩ (.slice none 0 0) ⟨#[]⟩ 0) (hb:Below w.heap.size w u) (hs:ak u w.heap.size vp ss) (r log:ByteArray) (syn:Int) :
  ak (s4D u (w.heap.size+2) (.string r) vp (.string log) (.int .i64 syn)) w.heap.size vp ss∧Below w.heap.size w (s4D u (w.heap.size+2) (.string r) vp (.string log) (.int .i64 syn)) :=
 ⟨hs.box ha (by decide) (lu u (w.heap.size+2) (.string r) vp (.string log) (.int .i64 syn)),jk hb (by omega) _ _ _ _⟩
theorem ez (u:World) (B:Nat):ak u B (.slice none 0 0) []:=World.ownsRow_nil _ _ _ _
theorem Cp {x:ByteArray}(h:¬ x.size=0):x.toList.isEmpty=false∧(x.toList == [])=false∧(x.toList != [])=true:=by
 have h1:x.toList.isEmpty=false:=by rw[Cf];exact decide_eq_false h
 have h2:x.toList≠[]:=fun c=>by rw[c]at h1;cases h1
 exact⟨h1,by simpa using h2,by simpa using h2⟩
theorem Mt {x:ByteArray}(h:x.size=0):x=⟨#[]⟩:=by
 rcases x with ⟨⟨l⟩⟩
 cases l with
 | nil=>rfl
 | cons a l=>simp[ByteArray.size]at h
theorem b30 {w:World} {B:Nat} {vd:Value} {d:Ds7}(x v:ByteArray) (hx:x.size≤1048576) (hv:v.size≤1048576) (hD:Dk7 w B vd d) :
  Calls prog 8 #[.agg #[.string d.r,vd,.string d.log,.int .i64 d.syn],.agg #[.int .i64 1,.string x,.string v]] w fun e w'=>Bw w (do7 d 1 x v) e w':=by
 obtain⟨ad,cd,aT⟩:=hD.form;subst aT;obtain⟨W0,hW⟩:∃ W0,W0=((w.alloc (.cells #[.string d.r,.slice ad d.ss.length cd,.string d.log,.int .i64 d.syn] 25)).alloc (.cells #[.int .i64 1,.string x,.string v] 27)).alloc (.cells #[.string ⟨#[]⟩,.slice none 0 0,.string ⟨#[]⟩,.int .i64 0] 25):=⟨_,rfl⟩
 have aA:Below w.heap.size w W0:=by rw[hW];exact ((bY _).alloc (by simp) _).alloc (by simp;omega) _
 have aY:W0.heap.size=w.heap.size+3:=by rw[hW];simp
 have aB:ba W0 w.heap.size d.r (.slice ad d.ss.length cd) d.log d.syn:=by
  show _=_
  rw[hW,Below.heap_alloc _ _ _ (by simp;omega),Below.heap_alloc _ _ _ (by simp)];exact heap_alloc_new w _
 have aD:gi W0 (w.heap.size+1) 1 x v:=by
  show _=_
  rw[hW,Below.heap_alloc _ _ _ (by simp)];have h:=heap_alloc_new (w.alloc (.cells #[.string d.r,.slice ad d.ss.length cd,.string d.log,.int .i64 d.syn] 25)) (.cells #[.int .i64 1,.string x,.string v] 27);rw[World.size_alloc]at h;exact h
 have aR:ba W0 (w.heap.size+2) ⟨#[]⟩ (.slice none 0 0) ⟨#[]⟩ 0:=by
  show _=_
  rw[hW];have h:=heap_alloc_new ((w.alloc (.cells #[.string d.r,.slice ad d.ss.length cd,.string d.log,.int .i64 d.syn] 25)).alloc (.cells #[.int .i64 1,.string x,.string v] 27)) (.cells #[.string ⟨#[]⟩,.slice none 0 0,.string ⟨#[]⟩,.int .i64 0] 25);rw[World.size_alloc,World.size_alloc]at h;exact h
 have OD:=om (hD.below aA);have a7:Hid (∀ u,Below w.heap.size w u→Dk7 u B (.slice ad d.ss.length cd) d):=fun u hu=>hD.below hu
 have HW:Hid (W0=((w.alloc (.cells #[.string d.r,.slice ad d.ss.length cd,.string d.log,.int .i64 d.syn] 25)).alloc (.cells #[.int .i64 1,.string x,.string v] 27)).alloc (.cells #[.string ⟨#[]⟩,.slice none 0 0,.string ⟨#[]⟩,.int .i64 0] 25)):=hW;have a4:Hid (Below w.heap.size w W0):=aA;have av:Hid (ba W0 w.heap.size d.r (.slice ad d.ss.length cd) d.log d.syn):=aB;have ah:Hid (gi W0 (w.heap.size+1) 1 x v):=aD;have au:Hid (ba W0 (w.heap.size+2) ⟨#[]⟩ (.slice none 0 0) ⟨#[]⟩ 0):=aR;obtain⟨an,d0,d1,d2,d3,df⟩:=aB.facts;obtain⟨af,o0,o1,o2⟩:=aD.facts;have aW:=hD.ok.log;have ai:Hid (Ok7 d):=hD.ok;have ag:Hid (∀ u,Calls prog 34 #[.int .i64 1,.int .i64 1,.int .i64 4] u fun e w'=>e=.returned (.bool true)∧w'=u):=fun u=>by
  have q:=zv u 1 1 4;rw[decide_eq_true (by decide)]at q;exact q
 clear hD aA aB aD aR hW
 cases ho:fu d with
 | none =>
  have HP:Hid (do7 d 1 x v=(1,zD7)):=Ah ho;rw[ho]at OD;have a8:Calls prog 32 #[.agg #[.string d.r,(.slice ad d.ss.length cd),.string d.log,.int .i64 d.syn]] W0 fun e w'=>∃ ve vr,e=.returned (.tuple #[.agg #[ve,.bool (aa d.r).sh,.int .i64 (aa d.r).lv],vr,.bool false])∧ac w' W0.heap.size ve (aa d.r).es∧Rws w' W0.heap.size vr []∧Below W0.heap.size W0 w':=OD
  clear OD ho a7 ag ai;go_enter func8,ntmps8;go_upto_region 1 with fail
  rw[<- HW.out];clear HW;go_wp2_with fail;refine a8.mono ?_;rintro e w1 ⟨ve,vr,rfl,h1,h2,b1⟩;obtain⟨va,vc,aE⟩:=cu h1;subst aE;have az:=au.out.below b1;have aS:=a4.out.trans (b1.mono a4.out.size);obtain⟨af,o0,o1,o2⟩:=(ah.out.below b1).facts;obtain⟨a2,aG,aH,aI,aJ,aK⟩:=az.facts;obtain⟨a3,a1⟩:=ki az aS (ez _ _) ⟨#[]⟩ ⟨#[]⟩ 0;have a6:Hid (∀ o,Below w.heap.size w ((s4D w1 (w.heap.size+2) (.string ⟨#[]⟩) (.slice none 0 0) (.string ⟨#[]⟩) (.int .i64 0)).alloc o)):=fun o=>a1.alloc a1.size o
  clear a3 a1 a8 h1 h2 b1 az aS;go_wp2;refine bodyPost_ret (v:=.tuple #[.agg #[.string ⟨#[]⟩,.slice none 0 0,.string ⟨#[]⟩,.int .i64 0],.int .i64 1]) ?_ rfl ?_
  .rw[results_cell_tmp rfl]
   go_simp
  .rw[HP.out]
   exact⟨.slice none 0 0,rfl,ez _ _,a6.out _⟩
 | some l =>
  have HO:Hid (fu d=some l):=ho;rw[ho]at OD;have a8:Calls prog 32 #[.agg #[.string d.r,(.slice ad d.ss.length cd),.string d.log,.int .i64 d.syn]] W0 fun e w'=>∃ ve vr,e=.returned (.tuple #[.agg #[ve,.bool (aa d.r).sh,.int .i64 (aa d.r).lv],vr,.bool true])∧ac w' W0.heap.size ve (aa d.r).es∧Rws w' W0.heap.size vr l∧Below W0.heap.size W0 w':=OD
  clear OD ho;go_enter func8,ntmps8;go_upto_region 1 with fail
  rw[<- HW.out];clear HW;go_wp2_with fail;refine a8.mono ?_;rintro e w1 ⟨ve,vr,rfl,h1,h2,b1⟩;obtain⟨va,vc,aE⟩:=cu h1;subst aE;obtain⟨ar,cr,aV⟩:=bz h2;obtain⟨w2,ao⟩:∃ w2,w2=w1.alloc (.cells #[.slice va (aa d.r).es.length vc,.bool (aa d.r).sh,.int .i64 (aa d.r).lv] 56):=⟨_,rfl⟩
  have ay:Hid (w2=w1.alloc (.cells #[.slice va (aa d.r).es.length vc,.bool (aa d.r).sh,.int .i64 (aa d.r).lv] 56)):=ao;have aj:Below w1.heap.size w1 w2:=by rw[ao];exact bY _
  have a9:=b1.trans (aj.mono b1.size);have aC:Hd9 w w2 w1.heap.size d (.slice ad d.ss.length cd) (.slice va (aa d.r).es.length vc) vr (aa d.r) l 1 x v:=⟨av.out.below a9,ah.out.below a9,au.out.below a9,by show _=_;rw[ao];exact heap_alloc_new w1 _,(ac.low h1 a4.out.size).below aj,(cz h2 a4.out.size).below aj,a4.out.trans (a9.mono a4.out.size),by have:=b1.size;omega⟩;have GD:=uf (a7.out w2 aC.bel);have aw:Hid (Hd9 w w2 w1.heap.size d (.slice ad d.ss.length cd) (.slice va (aa d.r).es.length vc) vr (aa d.r) l 1 x v):=aC;obtain⟨an,d0,d1,d2,d3,df⟩:=(av.out.below b1).facts;obtain⟨af,o0,o1,o2⟩:=(ah.out.below b1).facts;clear a8 h1 h2 b1 aj a9 ao aC av ah au
  cases hsy:ov d
  .have HP:Hid (do7 d 1 x v=(1,zD7)):=qn HO.out (by rw[hsy];simp)
   have ae:(cm d).isSome=false:=by unfold cm;rw[if_neg (by rw[hsy];simp)];rfl
   rw[ae]at GD;clear hsy ae ag a7 ai HO;go_wp2_with fail;rw[<- ay.out];refine GD.mono ?_;rintro e w3 ⟨rfl,b3⟩;have ab:=aw.out.below b3;obtain⟨af,o0,o1,o2⟩:=ab.dob.facts;obtain⟨a2,aG,aH,aI,aJ,aK⟩:=ab.ans.facts;obtain⟨a3,a1⟩:=ki ab.ans ab.bel (ez _ _) ⟨#[]⟩ ⟨#[]⟩ 0;have ax:Hid (ak _ _ _ _):=a3;have a6:Hid (Below _ _ _):=a1;clear a3 a1 ab b3 GD;go_wp2;refine bodyPost_ret (v:=.tuple #[.agg #[.string ⟨#[]⟩,.slice none 0 0,.string ⟨#[]⟩,.int .i64 0],.int .i64 1]) ?_ rfl ?_
   .rw[results_cell_tmp rfl]
    go_simp
   .rw[HP.out]
    exact⟨.slice none 0 0,rfl,ax.out,a6.out⟩
  .have ae:(cm d).isSome=true:=by unfold cm;rw[if_pos hsy,HO.out];rfl
   rw[ae]at GD;have aO:Hid (ov d=true):=hsy;clear hsy ae;go_wp2_with fail;rw[<- ay.out];refine GD.mono ?_;rintro e w3 ⟨rfl,b3⟩;have a5:Hid (Hd9 w w3 w1.heap.size d (.slice ad d.ss.length cd) (.slice va (aa d.r).es.length vc) vr (aa d.r) l 1 x v):=aw.out.below b3;have IN:=ag.out w3;obtain⟨af,o0,o1,o2⟩:=a5.out.dob.facts;clear GD b3 aw ay ag;go_wp2_with fail;refine IN.mono ?_;rintro e aZ ⟨rfl,aF⟩;replace aF:=aF.symm;subst aF;clear IN;have aM:Hid (do7 d 1 x v=doL d l 1 x v):=Fk HO.out aO.out (by rfl);have OW:=Fx (a7.out w3 a5.out.bel);obtain⟨an,d0,d1,d2,d3,df⟩:=a5.out.disk.facts;clear aO a7;go_wp2_with fail;refine OW.mono ?_;rintro e w4 ⟨vp,rfl,s4,b4⟩;obtain⟨ap,cp,aU⟩:=ip s4;subst aU;have al:=a5.out.below b4;obtain⟨w5,aq⟩:∃ w5,w5=s4D w4 w.heap.size (.string d.r) (.slice ap d.ss.length cp) (.string d.log) (.int .i64 d.syn):=⟨_,rfl⟩
   have a0:Hd9 w w5 w1.heap.size d (.slice ap d.ss.length cp) (.slice va (aa d.r).es.length vc) vr (aa d.r) l 1 x v:=by rw[aq];exact al.own _
   have aN:Hid (ak w5 w.heap.size (.slice ap d.ss.length cp) d.ss):=by rw[aq];exact (kq s4 a5.out.bel.size).box al.disk (by decide) (lu _ _ _ _ _ _)
   have aP:Hid ((((w4.setCell ⟨w.heap.size,0,none⟩ (.string d.r)).setCell ⟨w.heap.size,1,none⟩ (.slice ap d.ss.length cp)).setCell ⟨w.heap.size,2,none⟩ (.string d.log)).setCell ⟨w.heap.size,3,none⟩ (.int .i64 d.syn)=w5):=aq.symm;have aL:Hid (Hd9 w w5 w1.heap.size d (.slice ap d.ss.length cp) (.slice va (aa d.r).es.length vc) vr (aa d.r) l 1 x v):=a0;obtain⟨an,d0,d1,d2,d3,df⟩:=al.disk.facts;clear OW s4 b4 aq a5 al;go_upto_region 6 with fail
   rw[aP.out];clear aP;have hbr:=a0.hbr;obtain⟨an,d0,d1,d2,d3,df⟩:=a0.disk.facts;obtain⟨af,o0,o1,o2⟩:=a0.dob.facts;obtain⟨a2,aG,aH,aI,aJ,aK⟩:=a0.ans.facts;obtain⟨aX,u0,u1,u2⟩:=a0.rul.facts;have WR:=Ij (ad:=ap) (na:=d.ss.length) (cd:=cp) d.r d.log d.syn (dn7 1 x v) (by omega) hx hv a0.ents (nu HO.out) a0.rows (jz ai.out HO.out);have aQ:Calls prog 37 #[.agg #[.string d.r,.slice ap d.ss.length cp,.string d.log,.int .i64 d.syn],.agg #[(.slice va (aa d.r).es.length vc),.bool (aa d.r).sh,.int .i64 (aa d.r).lv],vr,.agg #[.int .i64 1,.string x,.string v]] w5 fun e w'=>e=.returned (.tuple #[.agg #[.string d.r,.slice ap d.ss.length cp,.string (wrC (aa d.r) l d.log (dn7 1 x v)).2,.int .i64 d.syn],.int .i64 (wrC (aa d.r) l d.log (dn7 1 x v)).1])∧Below w5.heap.size w5 w':=WR
   have HP:Hid (do7 d 1 x v=((wrC (aa d.r) l d.log (dn7 1 x v)).1,{ d with log:=(wrC (aa d.r) l d.log (dn7 1 x v)).2 })):=by show _=_;rw[aM.out,Jq (by decide) (by decide)]
   generalize wrC (aa d.r) l d.log (dn7 1 x v)=P at *;obtain⟨cde,lg⟩:=P;subst aV;clear WR a0 aM HO ai;go_wp2_with fail;refine aQ.mono ?_;rintro e w6 ⟨rfl,b6⟩;have am:=aL.out.below b6;obtain⟨a3,a1⟩:=ki am.ans am.bel (aN.out.below b6) d.r lg d.syn;have ax:Hid (ak _ _ _ _):=a3;have a6:Hid (Below _ _ _):=a1;obtain⟨a2,aG,aH,aI,aJ,aK⟩:=am.ans.facts;clear aQ b6 am a3 a1 aN aL;go_wp2;refine bodyPost_ret (v:=.tuple #[.agg #[.string d.r,(.slice ap d.ss.length cp),.string lg,.int .i64 d.syn],.int .i64 cde]) ?_ rfl ?_
   .rw[results_cell_tmp rfl]
    go_simp
   .rw[HP.out]
    exact⟨(.slice ap d.ss.length cp),rfl,ax.out,a6.out⟩
theorem b31 {w:World} {B:Nat} {vd:Value} {d:Ds7}(x v:ByteArray) (hx:x.size≤1048576) (hv:v.size≤1048576) (hD:Dk7 w B vd d) :
  Calls prog 8 #[.agg #[.string d.r,vd,.string d.log,.int .i64 d.syn],.agg #[.int .i64 2,.string x,.string v]] w fun e w'=>Bw w (do7 d 2 x v) e w':=by
 obtain⟨ad,cd,aU⟩:=hD.form;subst aU;obtain⟨W0,hW⟩:∃ W0,W0=((w.alloc (.cells #[.string d.r,.slice ad d.ss.length cd,.string d.log,.int .i64 d.syn] 25)).alloc (.cells #[.int .i64 2,.string x,.string v] 27)).alloc (.cells #[.string ⟨#[]⟩,.slice none 0 0,.string ⟨#[]⟩,.int .i64 0] 25):=⟨_,rfl⟩
 have aH:Below w.heap.size w W0:=by rw[hW];exact ((bY _).alloc (by simp) _).alloc (by simp;omega) _
 have aZ:W0.heap.size=w.heap.size+3:=by rw[hW];simp
 have aI:ba W0 w.heap.size d.r (.slice ad d.ss.length cd) d.log d.syn:=by
  show _=_
  rw[hW,Below.heap_alloc _ _ _ (by simp;omega),Below.heap_alloc _ _ _ (by simp)];exact heap_alloc_new w _
 have aK:gi W0 (w.heap.size+1) 2 x v:=by
  show _=_
  rw[hW,Below.heap_alloc _ _ _ (by simp)];have h:=heap_alloc_new (w.alloc (.cells #[.string d.r,.slice ad d.ss.length cd,.string d.log,.int .i64 d.syn] 25)) (.cells #[.int .i64 2,.string x,.string v] 27);rw[World.size_alloc]at h;exact h
 have aS:ba W0 (w.heap.size+2) ⟨#[]⟩ (.slice none 0 0) ⟨#[]⟩ 0:=by
  show _=_
  rw[hW];have h:=heap_alloc_new ((w.alloc (.cells #[.string d.r,.slice ad d.ss.length cd,.string d.log,.int .i64 d.syn] 25)).alloc (.cells #[.int .i64 2,.string x,.string v] 27)) (.cells #[.string ⟨#[]⟩,.slice none 0 0,.string ⟨#[]⟩,.int .i64 0] 25);rw[World.size_alloc,World.size_alloc]at h;exact h
 have OD:=om (hD.below aH);have a8:Hid (∀ u,Below w.heap.size w u→Dk7 u B (.slice ad d.ss.length cd) d):=fun u hu=>hD.below hu
 have HW:Hid (W0=((w.alloc (.cells #[.string d.r,.slice ad d.ss.length cd,.string d.log,.int .i64 d.syn] 25)).alloc (.cells #[.int .i64 2,.string x,.string v] 27)).alloc (.cells #[.string ⟨#[]⟩,.slice none 0 0,.string ⟨#[]⟩,.int .i64 0] 25)):=hW;have a7:Hid (Below w.heap.size w W0):=aH;have aC:Hid (ba W0 w.heap.size d.r (.slice ad d.ss.length cd) d.log d.syn):=aI;have aj:Hid (gi W0 (w.heap.size+1) 2 x v):=aK;have aB:Hid (ba W0 (w.heap.size+2) ⟨#[]⟩ (.slice none 0 0) ⟨#[]⟩ 0):=aS;obtain⟨aq,d0,d1,d2,d3,df⟩:=aI.facts;obtain⟨ag,o0,o1,o2⟩:=aK.facts;have aX:=hD.ok.log;have al:Hid (Ok7 d):=hD.ok;have ai:Hid (∀ u,Calls prog 34 #[.int .i64 2,.int .i64 1,.int .i64 4] u fun e w'=>e=.returned (.bool true)∧w'=u):=fun u=>by
  have q:=zv u 2 1 4;rw[decide_eq_true (by decide)]at q;exact q
 clear hD aH aI aK aS hW
 cases ho:fu d with
 | none =>
  have HP:Hid (do7 d 2 x v=(1,zD7)):=Ah ho;rw[ho]at OD;have ab:Calls prog 32 #[.agg #[.string d.r,(.slice ad d.ss.length cd),.string d.log,.int .i64 d.syn]] W0 fun e w'=>∃ ve vr,e=.returned (.tuple #[.agg #[ve,.bool (aa d.r).sh,.int .i64 (aa d.r).lv],vr,.bool false])∧ac w' W0.heap.size ve (aa d.r).es∧Rws w' W0.heap.size vr []∧Below W0.heap.size W0 w':=OD
  clear OD ho a8 ai al;go_enter func8,ntmps8;go_upto_region 1 with fail
  rw[<- HW.out];clear HW;go_wp2_with fail;refine ab.mono ?_;rintro e w1 ⟨ve,vr,rfl,h1,h2,b1⟩;obtain⟨va,vc,aL⟩:=cu h1;subst aL;have aG:=aB.out.below b1;have aT:=a7.out.trans (b1.mono a7.out.size);obtain⟨ag,o0,o1,o2⟩:=(aj.out.below b1).facts;obtain⟨a4,aw,ax,ay,az,aA⟩:=aG.facts;obtain⟨a2,a0⟩:=ki aG aT (ez _ _) ⟨#[]⟩ ⟨#[]⟩ 0;have a5:Hid (∀ o,Below w.heap.size w ((s4D w1 (w.heap.size+2) (.string ⟨#[]⟩) (.slice none 0 0) (.string ⟨#[]⟩) (.int .i64 0)).alloc o)):=fun o=>a0.alloc a0.size o
  clear a2 a0 ab h1 h2 b1 aG aT;go_wp2;refine bodyPost_ret (v:=.tuple #[.agg #[.string ⟨#[]⟩,.slice none 0 0,.string ⟨#[]⟩,.int .i64 0],.int .i64 1]) ?_ rfl ?_
  .rw[results_cell_tmp rfl]
   go_simp
  .rw[HP.out]
   exact⟨.slice none 0 0,rfl,ez _ _,a5.out _⟩
 | some l =>
  have HO:Hid (fu d=some l):=ho;rw[ho]at OD;have ab:Calls prog 32 #[.agg #[.string d.r,(.slice ad d.ss.length cd),.string d.log,.int .i64 d.syn]] W0 fun e w'=>∃ ve vr,e=.returned (.tuple #[.agg #[ve,.bool (aa d.r).sh,.int .i64 (aa d.r).lv],vr,.bool true])∧ac w' W0.heap.size ve (aa d.r).es∧Rws w' W0.heap.size vr l∧Below W0.heap.size W0 w':=OD
  clear OD ho;go_enter func8,ntmps8;go_upto_region 1 with fail
  rw[<- HW.out];clear HW;go_wp2_with fail;refine ab.mono ?_;rintro e w1 ⟨ve,vr,rfl,h1,h2,b1⟩;obtain⟨va,vc,aL⟩:=cu h1;subst aL;obtain⟨ar,cr,aW⟩:=bz h2;obtain⟨w2,au⟩:∃ w2,w2=w1.alloc (.cells #[.slice va (aa d.r).es.length vc,.bool (aa d.r).sh,.int .i64 (aa d.r).lv] 56):=⟨_,rfl⟩
  have aF:Hid (w2=w1.alloc (.cells #[.slice va (aa d.r).es.length vc,.bool (aa d.r).sh,.int .i64 (aa d.r).lv] 56)):=au;have am:Below w1.heap.size w1 w2:=by rw[au];exact bY _
  have ae:=b1.trans (am.mono b1.size);have aJ:Hd9 w w2 w1.heap.size d (.slice ad d.ss.length cd) (.slice va (aa d.r).es.length vc) vr (aa d.r) l 2 x v:=⟨aC.out.below ae,aj.out.below ae,aB.out.below ae,by show _=_;rw[au];exact heap_alloc_new w1 _,(ac.low h1 a7.out.size).below am,(cz h2 a7.out.size).below am,a7.out.trans (ae.mono a7.out.size),by have:=b1.size;omega⟩;have GD:=uf (a8.out w2 aJ.bel);have aD:Hid (Hd9 w w2 w1.heap.size d (.slice ad d.ss.length cd) (.slice va (aa d.r).es.length vc) vr (aa d.r) l 2 x v):=aJ;obtain⟨aq,d0,d1,d2,d3,df⟩:=(aC.out.below b1).facts;obtain⟨ag,o0,o1,o2⟩:=(aj.out.below b1).facts;clear ab h1 h2 b1 am ae au aJ aC aj aB
  cases hsy:ov d
  .have HP:Hid (do7 d 2 x v=(1,zD7)):=qn HO.out (by rw[hsy];simp)
   have af:(cm d).isSome=false:=by unfold cm;rw[if_neg (by rw[hsy];simp)];rfl
   rw[af]at GD;clear hsy af ai a8 al HO;go_wp2_with fail;rw[<- aF.out];refine GD.mono ?_;rintro e w3 ⟨rfl,b3⟩;have a1:=aD.out.below b3;obtain⟨ag,o0,o1,o2⟩:=a1.dob.facts;obtain⟨a4,aw,ax,ay,az,aA⟩:=a1.ans.facts;obtain⟨a2,a0⟩:=ki a1.ans a1.bel (ez _ _) ⟨#[]⟩ ⟨#[]⟩ 0;have a9:Hid (ak _ _ _ _):=a2;have a5:Hid (Below _ _ _):=a0;clear a2 a0 a1 b3 GD;go_wp2;refine bodyPost_ret (v:=.tuple #[.agg #[.string ⟨#[]⟩,.slice none 0 0,.string ⟨#[]⟩,.int .i64 0],.int .i64 1]) ?_ rfl ?_
   .rw[results_cell_tmp rfl]
    go_simp
   .rw[HP.out]
    exact⟨.slice none 0 0,rfl,a9.out,a5.out⟩
  .have af:(cm d).isSome=true:=by unfold cm;rw[if_pos hsy,HO.out];rfl
   rw[af]at GD;have aE:Hid (ov d=true):=hsy;clear hsy af;go_wp2_with fail;rw[<- aF.out];refine GD.mono ?_;rintro e w3 ⟨rfl,b3⟩;have a6:Hid (Hd9 w w3 w1.heap.size d (.slice ad d.ss.length cd) (.slice va (aa d.r).es.length vc) vr (aa d.r) l 2 x v):=aD.out.below b3;have IN:=ai.out w3;obtain⟨ag,o0,o1,o2⟩:=a6.out.dob.facts;clear GD b3 aD aF ai;go_wp2_with fail;refine IN.mono ?_;rintro e b0 ⟨rfl,aM⟩;replace aM:=aM.symm;subst aM;clear IN;by_cases ah:¬ v.size=0
   .have HP:Hid (do7 d 2 x v=(1,zD7)):=qn HO.out (by rw[aE.out];unfold Am;simp[ah])
    obtain⟨m1,m2,m3⟩:=Cp ah;have a1:=a6.out;obtain⟨a4,aw,ax,ay,az,aA⟩:=a1.ans.facts;obtain⟨a2,a0⟩:=ki a1.ans a1.bel (ez _ _) ⟨#[]⟩ ⟨#[]⟩ 0;have a9:Hid (ak _ _ _ _):=a2;have a5:Hid (Below _ _ _):=a0;clear a2 a0 a1;go_wp2;refine bodyPost_ret (v:=.tuple #[.agg #[.string ⟨#[]⟩,.slice none 0 0,.string ⟨#[]⟩,.int .i64 0],.int .i64 1]) ?_ rfl ?_
    .rw[results_cell_tmp rfl]
     go_simp
    .rw[HP.out]
     exact⟨.slice none 0 0,rfl,a9.out,a5.out⟩
   .replace ah:v.size=0:=Decidable.not_not.1 ah
    obtain rfl:=Mt ah;have aO:Hid (do7 d 2 x ⟨#[]⟩=doL d l 2 x ⟨#[]⟩):=Fk HO.out aE.out (by rfl);have OW:=Fx (a8.out w3 a6.out.bel);obtain⟨aq,d0,d1,d2,d3,df⟩:=a6.out.disk.facts;clear aE a8;go_wp2_with fail;refine OW.mono ?_;rintro e w4 ⟨vp,rfl,s4,b4⟩;obtain⟨ap,cp,aV⟩:=ip s4;subst aV;have an:=a6.out.below b4;obtain⟨w5,av⟩:∃ w5,w5=s4D w4 w.heap.size (.string d.r) (.slice ap d.ss.length cp) (.string d.log) (.int .i64 d.syn):=⟨_,rfl⟩
    have a3:Hd9 w w5 w1.heap.size d (.slice ap d.ss.length cp) (.slice va (aa d.r).es.length vc) vr (aa d.r) l 2 x ⟨#[]⟩:=by rw[av];exact an.own _
    have aP:Hid (ak w5 w.heap.size (.slice ap d.ss.length cp) d.ss):=by rw[av];exact (kq s4 a6.out.bel.size).box an.disk (by decide) (lu _ _ _ _ _ _)
    have aQ:Hid ((((w4.setCell ⟨w.heap.size,0,none⟩ (.string d.r)).setCell ⟨w.heap.size,1,none⟩ (.slice ap d.ss.length cp)).setCell ⟨w.heap.size,2,none⟩ (.string d.log)).setCell ⟨w.heap.size,3,none⟩ (.int .i64 d.syn)=w5):=av.symm;have aN:Hid (Hd9 w w5 w1.heap.size d (.slice ap d.ss.length cp) (.slice va (aa d.r).es.length vc) vr (aa d.r) l 2 x ⟨#[]⟩):=a3;obtain⟨aq,d0,d1,d2,d3,df⟩:=an.disk.facts;clear OW s4 b4 av a6 an;go_upto_region 6 with fail
    rw[aQ.out];clear aQ;have hbr:=a3.hbr;obtain⟨aq,d0,d1,d2,d3,df⟩:=a3.disk.facts;obtain⟨ag,o0,o1,o2⟩:=a3.dob.facts;obtain⟨a4,aw,ax,ay,az,aA⟩:=a3.ans.facts;obtain⟨aY,u0,u1,u2⟩:=a3.rul.facts;have WR:=Ij (ad:=ap) (na:=d.ss.length) (cd:=cp) d.r d.log d.syn (dn7 2 x ⟨#[]⟩) (by omega) hx hv a3.ents (nu HO.out) a3.rows (jz al.out HO.out);have aR:Calls prog 37 #[.agg #[.string d.r,.slice ap d.ss.length cp,.string d.log,.int .i64 d.syn],.agg #[(.slice va (aa d.r).es.length vc),.bool (aa d.r).sh,.int .i64 (aa d.r).lv],vr,.agg #[.int .i64 2,.string x,.string ⟨#[]⟩]] w5 fun e w'=>e=.returned (.tuple #[.agg #[.string d.r,.slice ap d.ss.length cp,.string (wrC (aa d.r) l d.log (dn7 2 x ⟨#[]⟩)).2,.int .i64 d.syn],.int .i64 (wrC (aa d.r) l d.log (dn7 2 x ⟨#[]⟩)).1])∧Below w5.heap.size w5 w':=WR
    have HP:Hid (do7 d 2 x ⟨#[]⟩=((wrC (aa d.r) l d.log (dn7 2 x ⟨#[]⟩)).1,{ d with log:=(wrC (aa d.r) l d.log (dn7 2 x ⟨#[]⟩)).2 })):=by show _=_;rw[aO.out,Jq (by decide) (by decide)]
    generalize wrC (aa d.r) l d.log (dn7 2 x ⟨#[]⟩)=P at *;obtain⟨cde,lg⟩:=P;subst aW;clear WR a3 aO HO al;go_wp2_with fail;refine aR.mono ?_;rintro e w6 ⟨rfl,b6⟩;have ao:=aN.out.below b6;obtain⟨a2,a0⟩:=ki ao.ans ao.bel (aP.out.below b6) d.r lg d.syn;have a9:Hid (ak _ _ _ _):=a2;have a5:Hid (Below _ _ _):=a0;obtain⟨a4,aw,ax,ay,az,aA⟩:=ao.ans.facts;clear aR b6 ao a2 a0 aP aN;go_wp2;refine bodyPost_ret (v:=.tuple #[.agg #[.string d.r,(.slice ap d.ss.length cp),.string lg,.int .i64 d.syn],.int .i64 cde]) ?_ rfl ?_
    .rw[results_cell_tmp rfl]
     go_simp
    .rw[HP.out]
     exact⟨(.slice ap d.ss.length cp),rfl,a9.out,a5.out⟩
theorem aj9 {w:World} {B:Nat} {vd:Value} {d:Ds7}(k:Int) (x v:ByteArray) (hk:k=3∨k=4) (hD:Dk7 w B vd d) :
  Calls prog 8 #[.agg #[.string d.r,vd,.string d.log,.int .i64 d.syn],.agg #[.int .i64 k,.string x,.string v]] w fun e w'=>Bw w (do7 d k x v) e w':=by
 obtain⟨ad,cd,b0⟩:=hD.form;subst b0;obtain⟨W0,hW⟩:∃ W0,W0=((w.alloc (.cells #[.string d.r,.slice ad d.ss.length cd,.string d.log,.int .i64 d.syn] 25)).alloc (.cells #[.int .i64 k,.string x,.string v] 27)).alloc (.cells #[.string ⟨#[]⟩,.slice none 0 0,.string ⟨#[]⟩,.int .i64 0] 25):=⟨_,rfl⟩
 have aN:Below w.heap.size w W0:=by rw[hW];exact ((bY _).alloc (by simp) _).alloc (by simp;omega) _
 have be:W0.heap.size=w.heap.size+3:=by rw[hW];simp
 have aO:ba W0 w.heap.size d.r (.slice ad d.ss.length cd) d.log d.syn:=by
  show _=_
  rw[hW,Below.heap_alloc _ _ _ (by simp;omega),Below.heap_alloc _ _ _ (by simp)];exact heap_alloc_new w _
 have aQ:gi W0 (w.heap.size+1) k x v:=by
  show _=_
  rw[hW,Below.heap_alloc _ _ _ (by simp)];have h:=heap_alloc_new (w.alloc (.cells #[.string d.r,.slice ad d.ss.length cd,.string d.log,.int .i64 d.syn] 25)) (.cells #[.int .i64 k,.string x,.string v] 27);rw[World.size_alloc]at h;exact h
 have aU:ba W0 (w.heap.size+2) ⟨#[]⟩ (.slice none 0 0) ⟨#[]⟩ 0:=by
  show _=_
  rw[hW];have h:=heap_alloc_new ((w.alloc (.cells #[.string d.r,.slice ad d.ss.length cd,.string d.log,.int .i64 d.syn] 25)).alloc (.cells #[.int .i64 k,.string x,.string v] 27)) (.cells #[.string ⟨#[]⟩,.slice none 0 0,.string ⟨#[]⟩,.int .i64 0] 25);rw[World.size_alloc,World.size_alloc]at h;exact h
 have OD:=om (hD.below aN);have an:Hid (∀ u,Below w.heap.size w u→Dk7 u B (.slice ad d.ss.length cd) d):=fun u hu=>hD.below hu
 have HW:Hid (W0=((w.alloc (.cells #[.string d.r,.slice ad d.ss.length cd,.string d.log,.int .i64 d.syn] 25)).alloc (.cells #[.int .i64 k,.string x,.string v] 27)).alloc (.cells #[.string ⟨#[]⟩,.slice none 0 0,.string ⟨#[]⟩,.int .i64 0] 25)):=hW;have a9:Hid (Below w.heap.size w W0):=aN;have aJ:Hid (ba W0 w.heap.size d.r (.slice ad d.ss.length cd) d.log d.syn):=aO;have aC:Hid (gi W0 (w.heap.size+1) k x v):=aQ;have aI:Hid (ba W0 (w.heap.size+2) ⟨#[]⟩ (.slice none 0 0) ⟨#[]⟩ 0):=aU;obtain⟨ag,d0,d1,d2,d3,df⟩:=aO.facts;obtain⟨ay,o0,o1,o2⟩:=aQ.facts;have bc:=hD.ok.log;have ae:Hid (Ok7 d):=hD.ok;have aB:Hid (∀ u,Calls prog 34 #[.int .i64 k,.int .i64 1,.int .i64 4] u fun e w'=>e=.returned (.bool true)∧w'=u):=fun u=>by
  have q:=zv u k 1 4;rw[decide_eq_true (by omega)]at q;exact q
 have b8:(k == 1)=false:=by simp;omega
 have b9:(k == 2)=false:=by simp;omega
 have bb:(k != 1)=true:=by simp;omega
 clear hD aN aO aQ aU hW
 cases ho:fu d with
 | none =>
  have HP:Hid (do7 d k x v=(1,zD7)):=Ah ho;rw[ho]at OD;have au:Calls prog 32 #[.agg #[.string d.r,(.slice ad d.ss.length cd),.string d.log,.int .i64 d.syn]] W0 fun e w'=>∃ ve vr,e=.returned (.tuple #[.agg #[ve,.bool (aa d.r).sh,.int .i64 (aa d.r).lv],vr,.bool false])∧ac w' W0.heap.size ve (aa d.r).es∧Rws w' W0.heap.size vr []∧Below W0.heap.size W0 w':=OD
  clear OD ho an aB ae;go_enter func8,ntmps8;go_upto_region 1 with fail
  rw[<- HW.out];clear HW;go_wp2_with fail;refine au.mono ?_;rintro e w1 ⟨ve,vr,rfl,h1,h2,b1⟩;obtain⟨va,vc,aR⟩:=cu h1;subst aR;have aM:=aI.out.below b1;have aX:=a9.out.trans (b1.mono a9.out.size);obtain⟨ay,o0,o1,o2⟩:=(aC.out.below b1).facts;obtain⟨a6,ah,ai,aj,al,am⟩:=aM.facts;obtain⟨a1,a0⟩:=ki aM aX (ez _ _) ⟨#[]⟩ ⟨#[]⟩ 0;have a3:Hid (∀ o,Below w.heap.size w ((s4D w1 (w.heap.size+2) (.string ⟨#[]⟩) (.slice none 0 0) (.string ⟨#[]⟩) (.int .i64 0)).alloc o)):=fun o=>a0.alloc a0.size o
  clear a1 a0 au h1 h2 b1 aM aX;go_wp2;refine bodyPost_ret (v:=.tuple #[.agg #[.string ⟨#[]⟩,.slice none 0 0,.string ⟨#[]⟩,.int .i64 0],.int .i64 1]) ?_ rfl ?_
  .rw[results_cell_tmp rfl]
   go_simp
  .rw[HP.out]
   exact⟨.slice none 0 0,rfl,ez _ _,a3.out _⟩
 | some l =>
  have HO:Hid (fu d=some l):=ho;rw[ho]at OD;have au:Calls prog 32 #[.agg #[.string d.r,(.slice ad d.ss.length cd),.string d.log,.int .i64 d.syn]] W0 fun e w'=>∃ ve vr,e=.returned (.tuple #[.agg #[ve,.bool (aa d.r).sh,.int .i64 (aa d.r).lv],vr,.bool true])∧ac w' W0.heap.size ve (aa d.r).es∧Rws w' W0.heap.size vr l∧Below W0.heap.size W0 w':=OD
  clear OD ho;go_enter func8,ntmps8;go_upto_region 1 with fail
  rw[<- HW.out];clear HW;go_wp2_with fail;refine au.mono ?_;rintro e w1 ⟨ve,vr,rfl,h1,h2,b1⟩;obtain⟨va,vc,aR⟩:=cu h1;subst aR;obtain⟨ar,cr,b7⟩:=bz h2;obtain⟨w2,aG⟩:∃ w2,w2=w1.alloc (.cells #[.slice va (aa d.r).es.length vc,.bool (aa d.r).sh,.int .i64 (aa d.r).lv] 56):=⟨_,rfl⟩
  have aL:Hid (w2=w1.alloc (.cells #[.slice va (aa d.r).es.length vc,.bool (aa d.r).sh,.int .i64 (aa d.r).lv] 56)):=aG;have aE:Below w1.heap.size w1 w2:=by rw[aG];exact bY _
  have aw:=b1.trans (aE.mono b1.size);have aP:Hd9 w w2 w1.heap.size d (.slice ad d.ss.length cd) (.slice va (aa d.r).es.length vc) vr (aa d.r) l k x v:=⟨aJ.out.below aw,aC.out.below aw,aI.out.below aw,by show _=_;rw[aG];exact heap_alloc_new w1 _,(ac.low h1 a9.out.size).below aE,(cz h2 a9.out.size).below aE,a9.out.trans (aw.mono a9.out.size),by have:=b1.size;omega⟩;have GD:=uf (an.out w2 aP.bel);have aK:Hid (Hd9 w w2 w1.heap.size d (.slice ad d.ss.length cd) (.slice va (aa d.r).es.length vc) vr (aa d.r) l k x v):=aP;obtain⟨ag,d0,d1,d2,d3,df⟩:=(aJ.out.below b1).facts;obtain⟨ay,o0,o1,o2⟩:=(aC.out.below b1).facts;clear au h1 h2 b1 aE aw aG aP aJ aC aI
  cases hsy:ov d
  .have HP:Hid (do7 d k x v=(1,zD7)):=qn HO.out (by rw[hsy];simp)
   have ax:(cm d).isSome=false:=by unfold cm;rw[if_neg (by rw[hsy];simp)];rfl
   rw[ax]at GD;clear hsy ax aB an ae HO;go_wp2_with fail;rw[<- aL.out];refine GD.mono ?_;rintro e w3 ⟨rfl,b3⟩;have a2:=aK.out.below b3;obtain⟨ay,o0,o1,o2⟩:=a2.dob.facts;obtain⟨a6,ah,ai,aj,al,am⟩:=a2.ans.facts;obtain⟨a1,a0⟩:=ki a2.ans a2.bel (ez _ _) ⟨#[]⟩ ⟨#[]⟩ 0;have a7:Hid (ak _ _ _ _):=a1;have a3:Hid (Below _ _ _):=a0;clear a1 a0 a2 b3 GD;go_wp2;refine bodyPost_ret (v:=.tuple #[.agg #[.string ⟨#[]⟩,.slice none 0 0,.string ⟨#[]⟩,.int .i64 0],.int .i64 1]) ?_ rfl ?_
   .rw[results_cell_tmp rfl]
    go_simp
   .rw[HP.out]
    exact⟨.slice none 0 0,rfl,a7.out,a3.out⟩
  .have ax:(cm d).isSome=true:=by unfold cm;rw[if_pos hsy,HO.out];rfl
   rw[ax]at GD;have aD:Hid (ov d=true):=hsy;clear hsy ax;go_wp2_with fail;rw[<- aL.out];refine GD.mono ?_;rintro e w3 ⟨rfl,b3⟩;have a8:Hid (Hd9 w w3 w1.heap.size d (.slice ad d.ss.length cd) (.slice va (aa d.r).es.length vc) vr (aa d.r) l k x v):=aK.out.below b3;have IN:=aB.out w3;obtain⟨ay,o0,o1,o2⟩:=a8.out.dob.facts;clear GD b3 aK aL aB;go_wp2_with fail;refine IN.mono ?_;rintro e bf ⟨rfl,aS⟩;replace aS:=aS.symm;subst aS;clear IN;by_cases az:¬ x.size=0
   .have HP:Hid (do7 d k x v=(1,zD7)):=qn HO.out (by rw[aD.out];rcases hk with rfl|rfl <;> (unfold Am;simp[az]))
    obtain⟨m1,m2,m3⟩:=Cp az;have a2:=a8.out;obtain⟨a6,ah,ai,aj,al,am⟩:=a2.ans.facts;obtain⟨a1,a0⟩:=ki a2.ans a2.bel (ez _ _) ⟨#[]⟩ ⟨#[]⟩ 0;have a7:Hid (ak _ _ _ _):=a1;have a3:Hid (Below _ _ _):=a0;clear a1 a0 a2;go_wp2;refine bodyPost_ret (v:=.tuple #[.agg #[.string ⟨#[]⟩,.slice none 0 0,.string ⟨#[]⟩,.int .i64 0],.int .i64 1]) ?_ rfl ?_
    .rw[results_cell_tmp rfl]
     go_simp
    .rw[HP.out]
     exact⟨.slice none 0 0,rfl,a7.out,a3.out⟩
   .replace az:x.size=0:=Decidable.not_not.1 az
    obtain rfl:=Mt az;by_cases aA:¬ v.size=0
    .have HP:Hid (do7 d k ⟨#[]⟩ v=(1,zD7)):=qn HO.out (by rw[aD.out];rcases hk with rfl|rfl <;> (unfold Am;simp[aA]))
     obtain⟨m1,m2,m3⟩:=Cp aA;have a2:=a8.out;obtain⟨a6,ah,ai,aj,al,am⟩:=a2.ans.facts;obtain⟨a1,a0⟩:=ki a2.ans a2.bel (ez _ _) ⟨#[]⟩ ⟨#[]⟩ 0;have a7:Hid (ak _ _ _ _):=a1;have a3:Hid (Below _ _ _):=a0;clear a1 a0 a2;go_wp2;refine bodyPost_ret (v:=.tuple #[.agg #[.string ⟨#[]⟩,.slice none 0 0,.string ⟨#[]⟩,.int .i64 0],.int .i64 1]) ?_ rfl ?_
     .rw[results_cell_tmp rfl]
      go_simp
     .rw[HP.out]
      exact⟨.slice none 0 0,rfl,a7.out,a3.out⟩
    .replace aA:v.size=0:=Decidable.not_not.1 aA
     obtain rfl:=Mt aA;have af:Hid (do7 d k ⟨#[]⟩ ⟨#[]⟩=doL d l k ⟨#[]⟩ ⟨#[]⟩):=Fk HO.out aD.out (by rcases hk with rfl|rfl <;> rfl);have OW:=Fx (an.out w3 a8.out.bel);obtain⟨ag,d0,d1,d2,d3,df⟩:=a8.out.disk.facts;clear aD an;go_wp2_with fail;refine OW.mono ?_;rintro e w4 ⟨vp,rfl,s4,b4⟩;obtain⟨ap,cp,b2⟩:=ip s4;subst b2;have aF:=a8.out.below b4;obtain⟨w5,aH⟩:∃ w5,w5=s4D w4 w.heap.size (.string d.r) (.slice ap d.ss.length cp) (.string d.log) (.int .i64 d.syn):=⟨_,rfl⟩
     have a4:Hd9 w w5 w1.heap.size d (.slice ap d.ss.length cp) (.slice va (aa d.r).es.length vc) vr (aa d.r) l k ⟨#[]⟩ ⟨#[]⟩:=by rw[aH];exact aF.own _
     have ao:Hid (ak w5 w.heap.size (.slice ap d.ss.length cp) d.ss):=by rw[aH];exact (kq s4 a8.out.bel.size).box aF.disk (by decide) (lu _ _ _ _ _ _)
     have aT:Hid ((((w4.setCell ⟨w.heap.size,0,none⟩ (.string d.r)).setCell ⟨w.heap.size,1,none⟩ (.slice ap d.ss.length cp)).setCell ⟨w.heap.size,2,none⟩ (.string d.log)).setCell ⟨w.heap.size,3,none⟩ (.int .i64 d.syn)=w5):=aH.symm;have ab:Hid (Hd9 w w5 w1.heap.size d (.slice ap d.ss.length cp) (.slice va (aa d.r).es.length vc) vr (aa d.r) l k ⟨#[]⟩ ⟨#[]⟩):=a4;obtain⟨ag,d0,d1,d2,d3,df⟩:=aF.disk.facts;clear OW s4 b4 aH a8 aF;go_upto_region 6 with fail
     rw[aT.out];clear aT;have hbr:=a4.hbr;obtain⟨ag,d0,d1,d2,d3,df⟩:=a4.disk.facts;obtain⟨ay,o0,o1,o2⟩:=a4.dob.facts;obtain⟨a6,ah,ai,aj,al,am⟩:=a4.ans.facts;obtain⟨bd,u0,u1,u2⟩:=a4.rul.facts;rcases hk with rfl|rfl
     .have HP:Hid (do7 d 3 ⟨#[]⟩ ⟨#[]⟩=(0,{ d with syn:=(d.log.size:Int) })):=by show _=_;rw[af.out];rfl
      have g6:=dq w5 w.heap.size 3 (.int .i64 (d.log.size:Int));have aV:=a4.ans.set (p:=w.heap.size) (k:=3) (by omega) (.int .i64 (d.log.size:Int));obtain⟨a1,a0⟩:=ki aV (a4.bel.setCell (p:=⟨w.heap.size,3,none⟩) bR _) (ao.out.box a4.disk (by decide) g6) d.r d.log (d.log.size:Int);have a7:Hid (ak _ _ _ _):=a1;have a3:Hid (Below _ _ _):=a0;clear a1 a0 aV g6 a4 af HO ae ao ab;go_wp2;refine bodyPost_ret (v:=.tuple #[.agg #[.string d.r,(.slice ap d.ss.length cp),.string d.log,.int .i64 (d.log.size:Int)],.int .i64 0]) ?_ rfl ?_
      .rw[results_cell_tmp rfl]
       go_simp
      .rw[HP.out]
       exact⟨(.slice ap d.ss.length cp),rfl,a7.out,a3.out⟩
     .subst b7
      have PG:=W2 a4.rows (Wu (jz ae.out HO.out))
      cases hpp:pu l with
      | none =>
       have HP:Hid (do7 d 4 ⟨#[]⟩ ⟨#[]⟩=(3,d)):=by show _=_;rw[af.out];unfold doL;rw[if_neg (by decide),if_pos rfl,hpp]
       rw[hpp]at PG;have av:Calls prog 36 #[.slice ar l.length cr] w5 fun e w'=>∃ v,e=.returned (.tuple #[v,.bool false])∧(∀ pp,(none:Option (List ByteArray))=some pp→ak w' w5.heap.size v pp)∧Below w5.heap.size w5 w':=PG
       clear PG hpp af HO ae a4;go_wp2_with fail;refine av.mono ?_;rintro e w6 ⟨vq,rfl,_,b6⟩;have a5:=ab.out.below b6;obtain⟨a1,a0⟩:=ki a5.ans a5.bel (ao.out.below b6) d.r d.log d.syn;have a7:Hid (ak _ _ _ _):=a1;have a3:Hid (Below _ _ _):=a0;obtain⟨a6,ah,ai,aj,al,am⟩:=a5.ans.facts;obtain⟨ag,d0,d1,d2,d3,df⟩:=a5.disk.facts;clear av b6 a5 a1 a0 ao ab;go_wp2;refine bodyPost_ret (v:=.tuple #[.agg #[.string d.r,(.slice ap d.ss.length cp),.string d.log,.int .i64 d.syn],.int .i64 3]) ?_ rfl ?_
       .rw[results_cell_tmp rfl]
        go_simp
       .rw[HP.out]
        exact⟨(.slice ap d.ss.length cp),rfl,a7.out,a3.out⟩
      | some pp =>
       have HP:Hid (do7 d 4 ⟨#[]⟩ ⟨#[]⟩=(0,{ d with ss:=pp,log:=⟨#[]⟩,syn:=0 })):=by show _=_;rw[af.out];unfold doL;rw[if_neg (by decide),if_pos rfl,hpp]
       have av:Calls prog 36 #[.slice ar l.length cr] w5 fun e w'=>∃ v,e=.returned (.tuple #[v,.bool true])∧ak w' w5.heap.size v pp∧Below w5.heap.size w5 w':=PG.mono fun e w' ⟨v,q1,q2,q3⟩=>⟨v,by rw[q1,hpp];rfl,q2 pp hpp,q3⟩
       clear PG hpp af HO ae a4;go_wp2_with fail;refine av.mono ?_;rintro e w6 ⟨vq,rfl,s6,b6⟩;obtain⟨aq,cq,b5⟩:=ip s6;subst b5;have a5:=ab.out.below b6;have g7:=((dq w6 w.heap.size 1 (.slice aq pp.length cq)).trans (dq _ w.heap.size 2 (.string ⟨#[]⟩))).trans (dq _ w.heap.size 3 (.int .i64 0));have aW:=em g7 (show w.heap.size+2≠w.heap.size by omega) a5.ans;have aY:=Below.grown a5.bel g7 a5.bel.size (fun j hj=>by have:=Option.some.inj hj;omega);have aZ:=(kq s6 ab.out.bel.size).box a5.disk (by decide) g7;obtain⟨a1,a0⟩:=ki aW aY aZ d.r ⟨#[]⟩ 0;have a7:Hid (ak _ _ _ _):=a1;have a3:Hid (Below _ _ _):=a0;obtain⟨a6,ah,ai,aj,al,am⟩:=a5.ans.facts;obtain⟨ag,d0,d1,d2,d3,df⟩:=a5.disk.facts;clear av b6 a5 a1 a0 ao ab s6 g7 aW aY aZ;go_wp2
       refine bodyPost_ret (v:=.tuple #[.agg #[.string d.r,(.slice aq pp.length cq),.string ⟨#[]⟩,.int .i64 0],.int .i64 0]) ?_ rfl ?_
       .rw[results_cell_tmp rfl]
        go_simp
       .rw[HP.out]
        exact⟨(.slice aq pp.length cq),rfl,a7.out,a3.out⟩
theorem b29 {w:World} {B:Nat} {vd:Value} {d:Ds7}(k:Int) (x v:ByteArray) (hk:¬ (1≤k∧k≤4)) (hD:Dk7 w B vd d) :
  Calls prog 8 #[.agg #[.string d.r,vd,.string d.log,.int .i64 d.syn],.agg #[.int .i64 k,.string x,.string v]] w fun e w'=>Bw w (do7 d k x v) e w':=by
 obtain⟨ad,cd,aJ⟩:=hD.form;subst aJ;obtain⟨W0,hW⟩:∃ W0,W0=((w.alloc (.cells #[.string d.r,.slice ad d.ss.length cd,.string d.log,.int .i64 d.syn] 25)).alloc (.cells #[.int .i64 k,.string x,.string v] 27)).alloc (.cells #[.string ⟨#[]⟩,.slice none 0 0,.string ⟨#[]⟩,.int .i64 0] 25):=⟨_,rfl⟩
 have ap:Below w.heap.size w W0:=by rw[hW];exact ((bY _).alloc (by simp) _).alloc (by simp;omega) _
 have aN:W0.heap.size=w.heap.size+3:=by rw[hW];simp
 have aq:ba W0 w.heap.size d.r (.slice ad d.ss.length cd) d.log d.syn:=by
  show _=_
  rw[hW,Below.heap_alloc _ _ _ (by simp;omega),Below.heap_alloc _ _ _ (by simp)];exact heap_alloc_new w _
 have av:gi W0 (w.heap.size+1) k x v:=by
  show _=_
  rw[hW,Below.heap_alloc _ _ _ (by simp)];have h:=heap_alloc_new (w.alloc (.cells #[.string d.r,.slice ad d.ss.length cd,.string d.log,.int .i64 d.syn] 25)) (.cells #[.int .i64 k,.string x,.string v] 27);rw[World.size_alloc]at h;exact h
 have aA:ba W0 (w.heap.size+2) ⟨#[]⟩ (.slice none 0 0) ⟨#[]⟩ 0:=by
  show _=_
  rw[hW];have h:=heap_alloc_new ((w.alloc (.cells #[.string d.r,.slice ad d.ss.length cd,.string d.log,.int .i64 d.syn] 25)).alloc (.cells #[.int .i64 k,.string x,.string v] 27)) (.cells #[.string ⟨#[]⟩,.slice none 0 0,.string ⟨#[]⟩,.int .i64 0] 25);rw[World.size_alloc,World.size_alloc]at h;exact h
 have OD:=om (hD.below ap);have aj:Hid (∀ u,Below w.heap.size w u→Dk7 u B (.slice ad d.ss.length cd) d):=fun u hu=>hD.below hu
 have HW:Hid (W0=((w.alloc (.cells #[.string d.r,.slice ad d.ss.length cd,.string d.log,.int .i64 d.syn] 25)).alloc (.cells #[.int .i64 k,.string x,.string v] 27)).alloc (.cells #[.string ⟨#[]⟩,.slice none 0 0,.string ⟨#[]⟩,.int .i64 0] 25)):=hW;have a3:Hid (Below w.heap.size w W0):=ap;have ai:Hid (ba W0 w.heap.size d.r (.slice ad d.ss.length cd) d.log d.syn):=aq;have ab:Hid (gi W0 (w.heap.size+1) k x v):=av;have ah:Hid (ba W0 (w.heap.size+2) ⟨#[]⟩ (.slice none 0 0) ⟨#[]⟩ 0):=aA;obtain⟨aI,d0,d1,d2,d3,df⟩:=aq.facts;obtain⟨af,o0,o1,o2⟩:=av.facts;have aM:=hD.ok.log;have az:Hid (Ok7 d):=hD.ok;have a9:Hid (∀ u,Calls prog 34 #[.int .i64 k,.int .i64 1,.int .i64 4] u fun e w'=>e=.returned (.bool false)∧w'=u):=fun u=>by
  have q:=zv u k 1 4;rw[decide_eq_false hk]at q;exact q
 have aK:(k == 1)=false:=by simp;omega
 have aL:(k == 2)=false:=by simp;omega
 clear hD ap aq av aA hW
 cases ho:fu d with
 | none =>
  have HP:Hid (do7 d k x v=(1,zD7)):=Ah ho;rw[ho]at OD;have a5:Calls prog 32 #[.agg #[.string d.r,(.slice ad d.ss.length cd),.string d.log,.int .i64 d.syn]] W0 fun e w'=>∃ ve vr,e=.returned (.tuple #[.agg #[ve,.bool (aa d.r).sh,.int .i64 (aa d.r).lv],vr,.bool false])∧ac w' W0.heap.size ve (aa d.r).es∧Rws w' W0.heap.size vr []∧Below W0.heap.size W0 w':=OD
  clear OD ho aj a9 az;go_enter func8,ntmps8;go_upto_region 1 with fail
  rw[<- HW.out];clear HW;go_wp2_with fail;refine a5.mono ?_;rintro e w1 ⟨ve,vr,rfl,h1,h2,b1⟩;obtain⟨va,vc,aw⟩:=cu h1;subst aw;have ao:=ah.out.below b1;have aB:=a3.out.trans (b1.mono a3.out.size);obtain⟨af,o0,o1,o2⟩:=(ab.out.below b1).facts;obtain⟨a7,aC,aD,aE,aF,aG⟩:=ao.facts;obtain⟨a2,a1⟩:=ki ao aB (ez _ _) ⟨#[]⟩ ⟨#[]⟩ 0;have a4:Hid (∀ o,Below w.heap.size w ((s4D w1 (w.heap.size+2) (.string ⟨#[]⟩) (.slice none 0 0) (.string ⟨#[]⟩) (.int .i64 0)).alloc o)):=fun o=>a1.alloc a1.size o
  clear a2 a1 a5 h1 h2 b1 ao aB;go_wp2;refine bodyPost_ret (v:=.tuple #[.agg #[.string ⟨#[]⟩,.slice none 0 0,.string ⟨#[]⟩,.int .i64 0],.int .i64 1]) ?_ rfl ?_
  .rw[results_cell_tmp rfl]
   go_simp
  .rw[HP.out]
   exact⟨.slice none 0 0,rfl,ez _ _,a4.out _⟩
 | some l =>
  have HO:Hid (fu d=some l):=ho;rw[ho]at OD;have a5:Calls prog 32 #[.agg #[.string d.r,(.slice ad d.ss.length cd),.string d.log,.int .i64 d.syn]] W0 fun e w'=>∃ ve vr,e=.returned (.tuple #[.agg #[ve,.bool (aa d.r).sh,.int .i64 (aa d.r).lv],vr,.bool true])∧ac w' W0.heap.size ve (aa d.r).es∧Rws w' W0.heap.size vr l∧Below W0.heap.size W0 w':=OD
  clear OD ho;go_enter func8,ntmps8;go_upto_region 1 with fail
  rw[<- HW.out];clear HW;go_wp2_with fail;refine a5.mono ?_;rintro e w1 ⟨ve,vr,rfl,h1,h2,b1⟩;obtain⟨va,vc,aw⟩:=cu h1;subst aw;obtain⟨ar,cr,aO⟩:=bz h2;obtain⟨w2,ag⟩:∃ w2,w2=w1.alloc (.cells #[.slice va (aa d.r).es.length vc,.bool (aa d.r).sh,.int .i64 (aa d.r).lv] 56):=⟨_,rfl⟩
  have an:Hid (w2=w1.alloc (.cells #[.slice va (aa d.r).es.length vc,.bool (aa d.r).sh,.int .i64 (aa d.r).lv] 56)):=ag;have ae:Below w1.heap.size w1 w2:=by rw[ag];exact bY _
  have a6:=b1.trans (ae.mono b1.size);have au:Hd9 w w2 w1.heap.size d (.slice ad d.ss.length cd) (.slice va (aa d.r).es.length vc) vr (aa d.r) l k x v:=⟨ai.out.below a6,ab.out.below a6,ah.out.below a6,by show _=_;rw[ag];exact heap_alloc_new w1 _,(ac.low h1 a3.out.size).below ae,(cz h2 a3.out.size).below ae,a3.out.trans (a6.mono a3.out.size),by have:=b1.size;omega⟩;have GD:=uf (aj.out w2 au.bel);have al:Hid (Hd9 w w2 w1.heap.size d (.slice ad d.ss.length cd) (.slice va (aa d.r).es.length vc) vr (aa d.r) l k x v):=au;obtain⟨aI,d0,d1,d2,d3,df⟩:=(ai.out.below b1).facts;obtain⟨af,o0,o1,o2⟩:=(ab.out.below b1).facts;clear a5 h1 h2 b1 ae a6 ag au ai ab ah
  cases hsy:ov d
  .have HP:Hid (do7 d k x v=(1,zD7)):=qn HO.out (by rw[hsy];simp)
   have a8:(cm d).isSome=false:=by unfold cm;rw[if_neg (by rw[hsy];simp)];rfl
   rw[a8]at GD;clear hsy a8 a9 aj az HO;go_wp2_with fail;rw[<- an.out];refine GD.mono ?_;rintro e w3 ⟨rfl,b3⟩;have a0:=al.out.below b3;obtain⟨af,o0,o1,o2⟩:=a0.dob.facts;obtain⟨a7,aC,aD,aE,aF,aG⟩:=a0.ans.facts;obtain⟨a2,a1⟩:=ki a0.ans a0.bel (ez _ _) ⟨#[]⟩ ⟨#[]⟩ 0;have am:Hid (ak _ _ _ _):=a2;have a4:Hid (Below _ _ _):=a1;clear a2 a1 a0 b3 GD;go_wp2;refine bodyPost_ret (v:=.tuple #[.agg #[.string ⟨#[]⟩,.slice none 0 0,.string ⟨#[]⟩,.int .i64 0],.int .i64 1]) ?_ rfl ?_
   .rw[results_cell_tmp rfl]
    go_simp
   .rw[HP.out]
    exact⟨.slice none 0 0,rfl,am.out,a4.out⟩
  .have a8:(cm d).isSome=true:=by unfold cm;rw[if_pos hsy,HO.out];rfl
   rw[a8]at GD;have aH:Hid (ov d=true):=hsy;clear hsy a8;go_wp2_with fail;rw[<- an.out];refine GD.mono ?_;rintro e w3 ⟨rfl,b3⟩;have ay:Hid (Hd9 w w3 w1.heap.size d (.slice ad d.ss.length cd) (.slice va (aa d.r).es.length vc) vr (aa d.r) l k x v):=al.out.below b3;have IN:=a9.out w3;obtain⟨af,o0,o1,o2⟩:=ay.out.dob.facts;clear GD b3 al an a9;go_wp2_with fail;refine IN.mono ?_;rintro e aP ⟨rfl,ax⟩;replace ax:=ax.symm;subst ax;clear IN;have HP:Hid (do7 d k x v=(1,zD7)):=qn HO.out (by rw[aH.out];unfold Am;simp;omega);have a0:=ay.out;obtain⟨a7,aC,aD,aE,aF,aG⟩:=a0.ans.facts;obtain⟨a2,a1⟩:=ki a0.ans a0.bel (ez _ _) ⟨#[]⟩ ⟨#[]⟩ 0;have am:Hid (ak _ _ _ _):=a2;have a4:Hid (Below _ _ _):=a1;clear a2 a1 a0;go_wp2;refine bodyPost_ret (v:=.tuple #[.agg #[.string ⟨#[]⟩,.slice none 0 0,.string ⟨#[]⟩,.int .i64 0],.int .i64 1]) ?_ rfl ?_
   .rw[results_cell_tmp rfl]
    go_simp
   .rw[HP.out]
    exact⟨.slice none 0 0,rfl,am.out,a4.out⟩
theorem am4 {w:World} {B:Nat} {vd:Value} {d:Ds7}(k:Int) (x v:ByteArray) (hx:x.size≤1048576) (hv:v.size≤1048576) (hD:Dk7 w B vd d) :
  Calls prog 8 #[.agg #[.string d.r,vd,.string d.log,.int .i64 d.syn],.agg #[.int .i64 k,.string x,.string v]] w fun e w'=>Bw w (do7 d k x v) e w':=by
 by_cases hk:1≤k∧k≤4
 .obtain rfl|rfl|rfl|rfl:k=1∨k=2∨k=3∨k=4:=by omega
  .exact b30 x v hx hv hD
  .exact b31 x v hx hv hD
  .exact aj9 3 x v (.inl rfl) hD
  .exact aj9 4 x v (.inr rfl) hD
 .exact b29 k x v hk hD
end Go.Proofs.YtjbmgghehdemdaaGreatDoor
