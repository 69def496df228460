/- IRows6 -/
import Derived.Test.YtjbmgghehdemdaaGreatDoorMT22
import Derived.Defers
import Derived.Recover
import Derived.Laws.Pointers
namespace Go.Proofs.YtjbmgghehdemdaaGreatDoor
set_option maxRecDepth 100000
set_option maxHeartbeats 16000000
open _root_.Go.Proofs.Tryz
open Go.RowKit
theorem Ya {w:World} {p q:Addr} {x y:Value} {ty:TypeId} {pv:Value} {a0:List PanicEntry}(hp:w.cell? p=some x) (fp:w.frozen? p=false) (hq:(w.setCell p (.slice none 0 0)).cell? q=some y) (fq:(w.setCell p (.slice none 0 0)).frozen? q=false) :
  CallsD prog 171 #[.pointer (some p),.pointer (some q)] (.panicking ({ v:=.iface ty pv,recovered:=false }::a0)) w fun e u' w' =>
   e=.returned (.tuple #[])∧u'=.panicking ({ v:=.iface ty pv,recovered:=true }::a0)∧w'=(w.setCell p (.slice none 0 0)).setCell q (.bool false):=by
 refine callsD_of_wpS func171 rfl fun c₀ cs hu=>?_
 apply wpS_seq
 apply wpS_region
 simp[wpOpsS,go_sem,recoverD,hu,ntmps171,Exit.thenS]
 refine wpS_cond (t:=true) (by simp[Act.eval,Array.replicate]) ?_;simp only[if_true];apply wpS_region
 simp[wpOpsS,go_sem,hp,fp,hq,fq,bodyPostS,results,Tryz.results171]
theorem Gz {w:World} {p q:Addr} :
  CallsD prog 171 #[.pointer (some p),.pointer (some q)] .returning w fun e u' w'=>e=.returned (.tuple #[])∧u'=.returning∧w'=w:=by
 refine callsD_of_wpS func171 rfl fun c₀ cs hu=>?_
 apply wpS_seq
 apply wpS_region
 simp[wpOpsS,go_sem,recoverD,hu,ntmps171,Exit.thenS]
 refine wpS_cond (t:=false) (by simp[Act.eval,Array.replicate]) ?_;simp only[Bool.false_eq_true,if_false];refine wpS_of_wp (wp_skip ?_)
 cases c₀
 simp_all [bodyPostS,results,Tryz.results171]
theorem sk {fn:Func} {p q:Tmp} {tp tq:TypeId}(h:fn.results=#[.cell p tp,.cell q tq]) (tmps:Array Value) (P:Program) (w:World) :
  (results fn tmps).run P w=((asAddr (tmps.getD p undef)).run P w).andThen fun a w₁=>((loadVar tp a).run P w₁).andThen fun v w₂=>((asAddr (tmps.getD q undef)).run P w₂).andThen fun a' w₃=>((loadVar tq a').run P w₃).andThen fun v' w₄=>.ok (.tuple #[v,v']) w₄:=by
 simp only[results,h];simp[Sem.run_bind,Result.andThen]
def RBx (w:World) (b:Nat) (v:Value):Prop:=w.heap[b]? = some (.cells #[v] 32)∧w.heap[b+1]? = some (.cells #[.bool false] 4)
theorem RBx.below {w w':World} {b:Nat} {v:Value}(h:RBx w b v) (hb:Below w.heap.size w w'):RBx w' b v :=
 ⟨(hb.block _ (Array.getElem?_eq_some_iff.1 h.1).1).trans h.1,(hb.block _ (Array.getElem?_eq_some_iff.1 h.2).1).trans h.2⟩
theorem RBx.grown {w w':World} {b c:Nat} {v:Value}(h:RBx w b v) (hg:w.grownBy w' (some c)) (h0:b≠c) (h1:b+1≠c):RBx w' b v :=
 ⟨(hg.block _ (Array.getElem?_eq_some_iff.1 h.1).1 (fun e=>h0 (Option.some.inj e))).trans h.1,(hg.block _ (Array.getElem?_eq_some_iff.1 h.2).1 (fun e=>h1 (Option.some.inj e))).trans h.2⟩
theorem RBx.facts {w:World} {b:Nat} {v:Value}(h:RBx w b v):w.cell? ⟨b,0,none⟩=some v∧w.frozen? ⟨b,0,none⟩=false∧b<w.heap.size∧w.cell? ⟨b+1,0,none⟩=some (.bool false)∧w.frozen? ⟨b+1,0,none⟩=false∧b+1<w.heap.size :=
 ⟨cell_of_row _ _ 0 _ _ _ h.1,by simp[World.frozen?,h.1],(Array.getElem?_eq_some_iff.1 h.1).1,cell_of_row _ _ 0 _ _ _ h.2,by simp[World.frozen?,h.2],(Array.getElem?_eq_some_iff.1 h.2).1⟩
theorem RBx.set {w:World} {b:Nat} {v:Value}(h:RBx w b v) (x:Value):RBx (w.setCell ⟨b,0,none⟩ x) b x:=by
 refine⟨?_,?_⟩
 .simp[World.setCell,Array.getElem?_modify,h.1]
 .simp[World.setCell,Array.getElem?_modify,h.2]
theorem RBx.two {w:World} {b:Nat} {v:Value}(h:RBx w b v) (x:Value) (y:Bool):((w.setCell ⟨b,0,none⟩ x).setCell ⟨b+1,0,none⟩ (.bool y)).cell? ⟨b,0,none⟩=some x∧((w.setCell ⟨b,0,none⟩ x).setCell ⟨b+1,0,none⟩ (.bool y)).cell? ⟨b+1,0,none⟩=some (.bool y):=by
 have h1:=(h.set x).1;have h2:=(h.set x).2;refine⟨cell_of_row _ _ 0 #[x] 32 (0,0) ?_,cell_of_row _ _ 0 #[.bool y] 4 (0,0) ?_⟩
 .have:((w.setCell ⟨b,0,none⟩ x).setCell ⟨b+1,0,none⟩ (.bool y)).heap[b]? = (w.setCell ⟨b,0,none⟩ x).heap[b]?:=(au _ (b+1) 0 _).block b (Array.getElem?_eq_some_iff.1 h1).1 (fun e=>by have:=Option.some.inj e;omega)
  rw[this];exact h1
 .generalize w.setCell ⟨b,0,none⟩ x=u at *
  simp[World.setCell,Array.getElem?_modify,h2]
theorem a36 {w:World} {b B:Nat} {t:ByteArray} {v:Value} {l:List Rw}(hp:PgR w b t) (h:Rws w B v l):v.ownBlock=none∨v.ownBlock≠some b:=by
 rcases h.2 with ⟨rfl,_⟩|⟨g,cap,cur,rfl,_,hg,_⟩
 .exact .inl rfl
 .refine .inr fun c=>?_
  have e:g=b:=Option.some.inj c;subst e;unfold PgR at hp;rw[hg]at hp;injection hp with q1;injection q1 with _ q2 _;exact absurd q2 (by decide)
theorem Ok {w:World} {b B:Nat} {v v':Value} {l:List Rw}(hp:RBx w b v') (h:Rws w B v l):v.ownBlock=none∨v.ownBlock≠some b:=by
 rcases h.2 with ⟨rfl,_⟩|⟨g,cap,cur,rfl,_,hg,_⟩
 .exact .inl rfl
 .refine .inr fun c=>?_
  have e:g=b:=Option.some.inj c;subst e;have a0:=hp.1;rw[hg]at a0;injection a0 with q1;injection q1 with _ q2 _;exact absurd q2 (by decide)
theorem T2 {w:World} {b B:Nat} {v v':Value} {l:List Rw}(hp:RBx w b v') (h:Rws w B v l):v.ownBlock=none∨v.ownBlock≠some (b+1):=by
 rcases h.2 with ⟨rfl,_⟩|⟨g,cap,cur,rfl,_,hg,_⟩
 .exact .inl rfl
 .refine .inr fun c=>?_
  have e:g=b+1:=Option.some.inj c;subst e;have a0:=hp.2;rw[hg]at a0;injection a0 with q1;injection q1 with _ q2 _;exact absurd q2 (by decide)
theorem O5 {v:Value} {b:Nat}(h:v.ownBlock=none∨v.ownBlock≠some b):some b≠v.ownBlock:=by
 rcases h with h|h
 .rw[h];exact fun e=>by cases e
 .exact h.symm
theorem af2 {w w':World} {b B:Nat} {v v':Value} {l:List Rw}(hp:RBx w b v') (h:Rws w B v l) (hg:w.grownBy w' v.ownBlock):RBx w' b v' :=
 ⟨(hg.block _ (Array.getElem?_eq_some_iff.1 hp.1).1 (O5 (Ok hp h))).trans hp.1,(hg.block _ (Array.getElem?_eq_some_iff.1 hp.2).1 (O5 (T2 hp h))).trans hp.2⟩
theorem ae4 {w w':World} {b B:Nat} {t:ByteArray} {v:Value} {l:List Rw}(hp:PgR w b t) (h:Rws w B v l) (hg:w.grownBy w' v.ownBlock):PgR w' b t :=
 (hg.block _ hp.lt (O5 (a36 hp h))).trans hp
theorem Z0 {w w':World} {B:Nat} {ty:TypeId} {pv v:Value} {l:List Rw}(hp:f7 w ty pv) (h:Rws w B v l) (hg:w.grownBy w' v.ownBlock) (hB:6<B):f7 w' ty pv :=
 (World.cell?_of_block (a:=⟨6,0,none⟩) (hg.block _ hp.lt (fun e=>by have h2:B≤6:=(World.ownsRow.lt h _ e.symm).1;omega))).trans hp
def aj8 (W:World) (b4:Nat) (s:ByteArray) (ty:TypeId) (pv:Value) (v6 v18:Value) (wr:World):Prop :=
 ∃ (k:Nat) (p t:ByteArray) (l:List Rw) (v:Value),k≤hd s 2∧v18=.int .i64 (k:Int)∧v6=.string p∧p.size≤510∧t.size≤300∧PgR wr b4 t∧RBx wr W.heap.size v∧Rws wr W.heap.size v l∧l.length=k ∧
  (rdF (hd s 2-k) p t).map (l++·)=rdF (hd s 2) ⟨#[]⟩ (s.extract 3 s.size)∧f7 wr ty pv∧Below W.heap.size W wr
theorem Ww (s:ByteArray) (w:World) (h3:3≤s.size) (ar:s.size≤300){ty:TypeId} {pv:Value}(hg:f7 w ty pv) :
  Calls prog 147 #[.string s] w fun e w'=>∃ v,e=.returned (.tuple #[v,.bool (f4 s).isSome])∧Rws w' w.heap.size v ((f4 s).getD [])∧Below w.heap.size w w':=by
 have b7:∀ (fn:Fn) (first cap:Array Value) (w:World),(Instr.makeFunc fn first cap).run prog w=.ok (.func fn first cap) w:=fun _ _ _ _=>rfl
 obtain⟨W0,ai⟩:∃ W0,Hid (W0=(w.alloc (.cells #[.slice none 0 0] 32)).alloc (.cells #[.bool false] 4)):=⟨_,rfl⟩
 have ag:Hid (Below w.heap.size w W0):=by rw[ai.out];exact (bY _).alloc (by simp) _
 have ap:Hid (RBx W0 w.heap.size (.slice none 0 0)):=by
  rw[ai.out];refine⟨?_,?_⟩
  .rw[Below.heap_alloc _ _ _ (by simp)];exact heap_alloc_new w _
  .have:=heap_alloc_new (w.alloc (.cells #[.slice none 0 0] 32)) (.cells #[.bool false] 4)
   rw[World.size_alloc]at this;exact this
 have CL:=Jm s W0 (by omega);have an:Hid (f7 W0 ty pv):=(ag.out.cell (p:=⟨6,0,none⟩) hg.lt).trans hg;have aG:=hg.lt;go_enter_defers func147,ntmps147;go_wp2_with fail;rw[<- ai.out];refine CL.mono ?_;rintro e w1 ⟨rfl,b1⟩;clear CL ai;have B1:=ag.out.trans (b1.mono ag.out.size);have X2:=(ap.out.below b1).below ((Below.refl w1.heap.size w1).alloc bR (.cells #[.string s] 232));have G2:f7 (w1.alloc (.cells #[.string s] 232)) ty pv:=f7.alloc ((b1.cell (p:=⟨6,0,none⟩) an.out.lt).trans an.out) _;have P2:PgR (w1.alloc (.cells #[.string s] 232)) w1.heap.size s:=heap_alloc_new w1 _;have B2:=B1.alloc B1.size (.cells #[.string s] 232);have aP:=(ap.out.below b1).facts;have T3:Calls prog 172 #[.pointer (some ⟨w1.heap.size,0,none⟩),.int .i64 3] _ _:=ow (n:=3) P2 h3;have aC:Hid (RBx _ _ _):=X2;have aw:Hid (f7 _ _ _):=G2
 have aj:Hid _:=B2;obtain⟨_,_,b4,_,_,b5⟩:=aP;clear X2 G2 P2 B2 B1 b1 ap ag an;go_wp2_with fail;refine T3.mono ?_;rintro e w3 ⟨rfl,P3,g3⟩;have a6:w.heap.size≠w1.heap.size∧w.heap.size+1≠w1.heap.size:=by omega
 have X3:RBx w3 w.heap.size (.slice none 0 0):=aC.out.grown g3 a6.1 a6.2;have G3:f7 w3 ty pv:=aw.out.grown g3 (by omega);have B3:Below w.heap.size w w3:=Below.grown aj.out g3 aj.out.size (fun j hj=>by cases hj;omega);have x2:∀ u:World,(Instr.index 9 (.string (s.extract 0 3)) (.int .i64 2)).run prog u=.ok (.int .u8 (hd s 2:Int)) u:=fun u=>by
  have h:=d5 (s.extract 0 3) 2 (by rw[fh s h3];omega) u;rw[zl s h3 (by omega)]at h;exact h
 have l2:=jc s 2;have v2:IntKind.i64.wrap (hd s 2:Int)=(hd s 2:Int):=by rw[IntKind.wrap_i64];omega
 have z3:(s.extract 3 s.size).size≤300:=by rw[Mu];omega
 have aB:Hid (aj8 w w1.heap.size s ty pv (.string ⟨#[]⟩) (.int .i64 0) w3):=⟨0,⟨#[]⟩,s.extract 3 s.size,[],.slice none 0 0,Nat.zero_le _,rfl,rfl,Nat.zero_le _,z3,P3,X3,World.ownsRow_nil _ _ _ _,rfl,by rw[Nat.sub_zero];cases rdF (hd s 2) ⟨#[]⟩ (s.extract 3 s.size) <;> rfl,G3,B3⟩;have ah:Hid (rdF (hd s 2) ⟨#[]⟩ (s.extract 3 s.size)=none→(f4 s).isSome=false∧(f4 s).getD []=[]):=fun h=>by
  have e:f4 s=none:=by unfold f4;rw[h]
  rw[e];exact⟨rfl,rfl⟩
 have a1:Hid (∀ l,rdF (hd s 2) ⟨#[]⟩ (s.extract 3 s.size)=some l→(pbT l=s→(f4 s).isSome=true∧(f4 s).getD []=l)∧(¬ pbT l=s→(f4 s).isSome=false∧(f4 s).getD []=[])):=fun l h=>by
  have hp:=av6 (l:=l) h3 ar;have e:f4 s=if kl s l then some l else none:=by unfold f4;rw[h]
  refine⟨fun hq=>?_,fun hq=>?_⟩
  .rw[decide_eq_true hq]at hp
   rw[e,<- hp];exact⟨rfl,rfl⟩
  .rw[decide_eq_false hq]at hp
   rw[e,<- hp];exact⟨rfl,rfl⟩
 obtain⟨i0,hi0,aZ,aU,aY⟩:=info_parts Ni;clear T3 P3 g3 X3 G3 B3 aC aw aj a6 z3;go_wp2;go_loopw [6,18] (fun v6 v18 wr=>aj8 w w1.heap.size s ty pv v6 v18 wr) (fun _ i _=>hd s 2-(intOf i).toNat)
 case atStart=>exact aB.out
 case round =>
  clear aB;obtain⟨k,p,t,l,v,hk,rfl,rfl,hp,ht,hP,hX,hR,hl,hF,hG,hB⟩:=hrel;have aN:Hid (l.length=k):=hl;have b3:l.length≤255:=by omega
  have HF:Hid _:=hF;have HX:Hid (RBx _ _ _):=hX;have HR:Hid (Rws _ _ _ _):=hR;have HP:Hid (PgR _ _ _):=hP;have HG:Hid (f7 _ _ _):=hG;have HB:Hid _:=hB;obtain⟨ra,rc,rfl⟩:=bz hR;clear hl hF hX hR hP hG hB;by_cases aQ:k<hd s 2
  .have b2:(k:Int)<(hd s 2:Int):=by omega
   have af:hd s 2-k=(hd s 2-(k+1))+1:=by omega
   cases hok:o6 p t
   .have TN:=Xh HG.out (by omega) HP.out hok (by omega) (by omega)
    have aH:=ah.out (by rw[<- HF.out,af,rdF,hok];rfl);have a2:Hid _:=aH;clear ah a1 HF aH hok;go_wp2_with fail;refine TN.mono ?_;rintro e w5 ⟨rfl,g5⟩;have X5:=HX.out.grown g5 (by omega) (by omega);have B5:Below w.heap.size w w5:=Below.grown HB.out g5 HB.out.size (fun j hj=>by cases hj;omega);obtain⟨c0,f0,m0,c1,f1,m1⟩:=X5.facts;have aO:Hid (Below w.heap.size w ((w5.setCell ⟨w.heap.size,0,none⟩ (.slice none 0 0)).setCell ⟨w.heap.size+1,0,none⟩ (.bool false))):=(B5.setCell (p:=⟨w.heap.size,0,none⟩) bR _).setCell (p:=⟨w.heap.size+1,0,none⟩) (by show w.heap.size≤w.heap.size+1;omega) _;change bodyPostD prog Tryz.f147 _ (Exit.panic _) _ w5
    refine leaves_cons (f:=171) (args:=#[.pointer (some ⟨w.heap.size,0,none⟩),.pointer (some ⟨w.heap.size+1,0,none⟩)]) (by simp) (by simp[go_sem]) ?_;obtain⟨_,_,_,c2,f2,_⟩:=(X5.set (.slice none 0 0)).facts;refine (Ya c0 f0 c2 f2).mono ?_;rintro e u' aK ⟨rfl,rfl,rfl⟩;obtain⟨d0,d1⟩:=X5.two (.slice none 0 0) false;refine⟨.tuple #[.slice none 0 0,.bool false],?_,_,by rw[a2.out.1],by rw[a2.out.2];exact World.ownsRow_nil _ _ _ _,aO.out⟩;rw[sk rfl];go_simp
   .have TR:=Xi HP.out hok (by omega) (by omega)
    have aJ:=Rq hok;have aT:=Rp hok;have q0:=jc t 0;have q1:=jc t 1;have aL:Hid ((rdF (hd s 2-(k+1)) (ld p t).key (kp t)).map ((l++[ld p t])++·)=rdF (hd s 2) ⟨#[]⟩ (s.extract 3 s.size)):=by
     show _=_
     rw[<- HF.out,af,rdF,hok,if_pos rfl]
     cases rdF (hd s 2-(k+1)) (ld p t).key (kp t) <;> simp
    have ae:(ld p t).key.size≤510:=by rw[aJ.1];omega
    have aX:(kp t).size≤300:=by omega
    generalize ld p t=x at *;generalize kp t=tz at *;unfold rwV at TR;have aM:Hid _:=ae;clear ah a1 HF hok aJ aT q0 q1 ae;go_wp2_with fail;refine TR.mono ?_;rintro e w5 ⟨rfl,P5,g5⟩;have X5:=HX.out.grown g5 (by omega) (by omega);have R5:Rws w5 w.heap.size (.slice ra l.length rc) l:=World.ownsRow.kept HR.out g5 (a36 HP.out HR.out);have G5:=HG.out.grown g5 (by omega);have B5:Below w.heap.size w w5:=Below.grown HB.out g5 HB.out.size (fun j hj=>by cases hj;omega);have aV:=B5.size;have b0:=P5.lt;clear TR g5 HX HR HP HG HB;obtain⟨W7,a3⟩:∃ W7,Hid (W7=(w5.alloc (.cells #[.string x.key,.string x.text,.string x.val] 37)).alloc (.cells #[.string x.key,.string x.text,.string x.val] 37)):=⟨_,rfl⟩
    have aa:Below w5.heap.size w5 W7:=by rw[a3.out];exact (bY _).alloc (by simp) _
    have aW:W7.heap.size=w5.heap.size+2:=by rw[a3.out];simp
    have ad:di W7 w5.heap.size x:=by rw[a3.out];exact (ky w5 x).alloc _
    have ay:Hid (∀ j u,[Value.string x.key,.string x.text,.string x.val][j]? = some u→W7.cell? ((⟨w5.heap.size+1,0,none⟩:Addr).add j)=some u):=by rw[a3.out];exact C6 _ _ _ _ _ _ (by simp)
    have X7:=X5.below aa;have R7:W7.ownsRow w.heap.size 37 3 (.slice ra l.length rc) l.length (go l):=R5.below aa;have P7:=P5.below aa;have G7:f7 W7 ty pv:=(aa.cell (p:=⟨6,0,none⟩) G5.lt).trans G5;have B7:Below w.heap.size w W7:=B5.trans (aa.mono aV);obtain⟨c0,f0,m0,c1,f1,m1⟩:=X5.facts;have aD:Hid (RBx _ _ _):=X7;have a9:Hid (World.ownsRow _ _ _ _ _ _ _):=R7;have az:Hid (PgR _ _ _):=P7;have ax:Hid (f7 _ _ _):=G7;have al:Hid _:=B7;have am:Hid (di _ _ _):=ad;have aA:Hid (∀ j,(Value.slice ra l.length rc).ownBlock=some j→j<w5.heap.size):=fun j hj=>(World.ownsRow.lt R5 j hj).2
    have aE:∀ u:World,u=(w5.alloc (.cells #[.string x.key,.string x.text,.string x.val] 37)).alloc (.cells #[.string x.key,.string x.text,.string x.val] 37)→u.ownsRow w.heap.size 37 3 (.slice ra l.length rc) l.length (go l):=fun u hu=>by rw[hu,<- a3.out];exact a9.out
    have aF:∀ u:World,u=(w5.alloc (.cells #[.string x.key,.string x.text,.string x.val] 37)).alloc (.cells #[.string x.key,.string x.text,.string x.val] 37)→∀ j q,[Value.string x.key,.string x.text,.string x.val][j]? = some q→u.cell? ((⟨w5.heap.size+1,0,none⟩:Addr).add j)=some q:=fun u hu=>by rw[hu,<- a3.out];exact ay.out
    clear P5 G5 B5 R5 X5 X7 R7 P7 G7 B7 ad ay aa;go_wp2_with (at_builtin;refine wpList_append_lies _ rfl _ _ 32 rfl w.heap.size 37 i0 _ 3 48 underlying32 hi0 aZ aU aY rfl (by decide) _ _ _ rfl (aE _ rfl) ⟨w5.heap.size+1,0,none⟩ 1 1 [.string x.key,.string x.text,.string x.val] rfl rfl (aF _ rfl) (fun z hz=>by simp at hz;rcases hz with rfl|rfl|rfl <;> rfl) (by omega) (by unfold maxLen;omega) (by omega) (by simp;omega) (w5.heap.size+2) (by simp) ?_)
    intro g8 a0 w8 aI a5 av aR;rw[<- a3.out]at a5;have X8:=af2 aD.out a9.out a5;have P8:=ae4 az.out a9.out a5;have G8:=Z0 ax.out a9.out a5 aG;have aq:di w8 w5.heap.size x:=(a5.block _ am.out.lt (fun e=>by have:=aA.out _ e.symm;omega)).trans am.out;have B8:Below w.heap.size w w8:=Below.grown al.out a5 al.out.size (fun j hj=>(World.ownsRow.lt a9.out j hj).1);obtain⟨k0,n0,o0,k1,n1,o1⟩:=X8.facts;have y0:=aq.cells.1;have b9:=aq.lt;have R8:Rws w8 w.heap.size (.slice (some ⟨g8,0,none⟩) (l.length+1) a0) (l++[x]):=T8 aI;have X9:=X8.set (.slice (some ⟨g8,0,none⟩) (l.length+1) a0);have P9:PgR (w8.setCell ⟨w.heap.size,0,none⟩ (.slice (some ⟨g8,0,none⟩) (l.length+1) a0)) w1.heap.size tz:=((au w8 w.heap.size 0 _).block _ P8.lt (fun e=>by have:=Option.some.inj e;omega)).trans P8
    have G9:f7 (w8.setCell ⟨w.heap.size,0,none⟩ (.slice (some ⟨g8,0,none⟩) (l.length+1) a0)) ty pv:=G8.grown (au w8 w.heap.size 0 _) aG;have R9:Rws (w8.setCell ⟨w.heap.size,0,none⟩ (.slice (some ⟨g8,0,none⟩) (l.length+1) a0)) w.heap.size (.slice (some ⟨g8,0,none⟩) (l.length+1) a0) (l++[x]):=World.ownsRow.kept R8 (au w8 w.heap.size 0 _) (Ok X8 R8);have B9:=B8.setCell (p:=⟨w.heap.size,0,none⟩) bR (.slice (some ⟨g8,0,none⟩) (l.length+1) a0);have HZ:Hid (PgR _ _ _∧RBx _ _ _∧Rws _ _ _ _∧f7 _ _ _∧Below _ _ _):=⟨P9,X9,R9,G9,B9⟩;have aS:w.heap.size≠w5.heap.size:=by omega
    clear aI a5 av X8 P8 G8 aq B8 R8 X9 P9 G9 R9 B9 aD a9 az ax al am aA aE aF a3 aW;go_wp2;obtain⟨e1,e2,e3,e4,e5⟩:=HZ.out;exact⟨⟨k+1,x.key,tz,l++[x],_,aQ,by go_num,rfl,aM.out,aX,e1,e2,e3,by rw[List.length_append,aN.out];rfl,aL.out,e4,e5⟩,by simp[intOf];omega⟩
  .have ae:k=hd s 2:=by omega
   have a4:rdF (hd s 2) ⟨#[]⟩ (s.extract 3 s.size)=some l:=by rw[<- HF.out,ae,Nat.sub_self];simp[rdF]
   obtain⟨a8,a7⟩:=a1.out l a4;have nk:¬ (k:Int)<(hd s 2:Int):=by omega
   have PB:=Vg (cap:=rc) (ew HR.out) (by omega);obtain⟨c0,f0,m0,_⟩:=HX.out.facts;clear a4 ah a1 HF ae HP HG;by_cases ab:pbT l=s
   .have a2:Hid _:=a8 ab
    rw[ab]at PB;clear a8 a7 ab;go_wp2_with fail;refine PB.mono ?_;rintro e w6 ⟨rfl,b6⟩;have X6:=HX.out.below b6;have R6:=HR.out.below b6;have B6:Below w.heap.size w w6:=HB.out.trans (b6.mono HB.out.size);obtain⟨k0,n0,o0,k1,n1,o1⟩:=X6.facts;have ac:Hid (RBx _ _ _):=X6;have ao:Hid (Rws _ _ _ _):=R6;have ak:Hid _:=B6;clear PB b6 X6 R6 B6 HX HR HB c0 f0 m0;go_wp2;change bodyPostD prog Tryz.f147 _ Exit.ret _ _
    refine leaves_cons (f:=171) (args:=#[.pointer (some ⟨w.heap.size,0,none⟩),.pointer (some ⟨w.heap.size+1,0,none⟩)]) (by simp) (by simp[go_sem]) ?_;refine Gz.mono ?_;rintro e u' aK ⟨rfl,rfl,rfl⟩;obtain⟨d0,d1⟩:=ac.out.two (.slice ra l.length rc) true;have R9:=World.ownsRow.kept (World.ownsRow.kept ao.out (au w6 w.heap.size 0 (.slice ra l.length rc)) (Ok ac.out ao.out)) (au _ (w.heap.size+1) 0 (.bool true)) (T2 ac.out ao.out);have B9:=(ak.out.setCell (p:=⟨w.heap.size,0,none⟩) bR (.slice ra l.length rc)).setCell (p:=⟨w.heap.size+1,0,none⟩) (by show w.heap.size≤w.heap.size+1;omega) (.bool true);refine⟨.tuple #[.slice ra l.length rc,.bool true],?_,_,by rw[a2.out.1],by rw[a2.out.2];exact R9,B9⟩;rw[sk rfl];go_simp
   .have a2:Hid _:=a7 ab
    generalize pbT l=pq at *;have b8:=xp ab;clear a8 a7 ab;go_wp2_with fail;refine PB.mono ?_;rintro e w6 ⟨rfl,b6⟩;have X6:=HX.out.below b6;have B6:Below w.heap.size w w6:=HB.out.trans (b6.mono HB.out.size);obtain⟨k0,n0,o0,k1,n1,o1⟩:=X6.facts;have ac:Hid (RBx _ _ _):=X6;have ak:Hid _:=B6;clear PB b6 X6 B6 HX HR HB c0 f0 m0;go_wp2;change bodyPostD prog Tryz.f147 _ Exit.ret _ _
    refine leaves_cons (f:=171) (args:=#[.pointer (some ⟨w.heap.size,0,none⟩),.pointer (some ⟨w.heap.size+1,0,none⟩)]) (by simp) (by simp[go_sem]) ?_;refine Gz.mono ?_;rintro e u' aK ⟨rfl,rfl,rfl⟩;obtain⟨d0,d1⟩:=ac.out.two (.slice none 0 0) false;have B9:=(ak.out.setCell (p:=⟨w.heap.size,0,none⟩) bR (.slice none 0 0)).setCell (p:=⟨w.heap.size+1,0,none⟩) (by show w.heap.size≤w.heap.size+1;omega) (.bool false);refine⟨.tuple #[.slice none 0 0,.bool false],?_,_,by rw[a2.out.1],by rw[a2.out.2];exact World.ownsRow_nil _ _ _ _,B9⟩;rw[sk rfl];go_simp
theorem ao3 {s:ByteArray}(h:3≤s.size):((s.extract 0 2).toList == [80,71])=lp s:=by
 have hz:(s.extract 0 2).size=2:=fh s (by omega);have e0:bAt (s.extract 0 2) 0=bAt s 0:=zl s (by omega) (by omega);have e1:bAt (s.extract 0 2) 1=bAt s 1:=zl s (by omega) (by omega);have hl:(s.extract 0 2).toList=[bAt s 0,bAt s 1]:=by
  rw[ByteArray.toList_eq];have a0:(s.extract 0 2).data.toList.length=2:=by rw[Array.length_toList];exact hz
  have d0:=oc (s:=s.extract 0 2) (n:=0) (by omega);have d1:=oc (s:=s.extract 0 2) (n:=1) (by omega);rw[List.drop_zero]at d0;rw[d0,d1,e0,e1];congr 2
  apply List.drop_eq_nil_of_le
  omega
 rw[hl];unfold lp hd;have q0:((bAt s 0).toNat=80)=(bAt s 0=80):=propext ⟨fun e=>UInt8.toNat_inj.1 e,fun e=>by rw[e];rfl⟩;have q1:((bAt s 1).toNat=71)=(bAt s 1=71):=propext ⟨fun e=>UInt8.toNat_inj.1 e,fun e=>by rw[e];rfl⟩;simp only[q0,q1];by_cases h1:bAt s 0=80
 .by_cases h2:bAt s 1=71
  .simp[h1,h2]
  .simp[h1,h2]
 .simp[h1]
theorem W4 (s:ByteArray) (w:World) (h:3≤s.size) (h3:s.size≤300):Calls prog 146 #[.string s,.string ⟨#[80,71]⟩] w fun e w'=>e=.returned (.bool (lp s))∧w'=w:=by
 have P:Calls prog 170 #[.string s,.string ⟨#[80,71]⟩] w fun e w'=>e=.returned (.bool (lp s))∧w'=w:=by
  have hm:=ao3 h;have hz:(⟨#[80,71]⟩:ByteArray).size=2:=rfl;have h2:(2:Int)≤(s.size:Int):=by omega
  have HM:Hid _:=hm;go_enter func170,ntmps170;go_wp2;go_ret;have e:=HM.out;exact⟨by rw[<- e];rfl,rfl⟩
 go_enter func146,ntmps146;go_wp2_with fail;refine P.mono ?_;rintro e w1 ⟨rfl,rfl⟩;clear P;go_wp2;go_ret;exact⟨rfl,rfl⟩
theorem Vh (s:ByteArray) (w:World) (hs:s.size≤1048576){ty:TypeId} {pv:Value}(hg:f7 w ty pv) :
  Calls prog 120 #[.string s] w fun e w'=>∃ v,e=.returned (.tuple #[v,.int .i64 (da s)])∧Rws w' w.heap.size v (an s)∧Below w.heap.size w w':=by
 have a2:Hid (Rws w w.heap.size (.slice none 0 0) []):=World.ownsRow_nil _ _ _ _;by_cases a1:s.size≤300
 .have a3:(s.size:Int)≤300:=by omega
  by_cases h3:3≤s.size
  .have n3:(3:Int)≤(s.size:Int):=by omega
   have a0:m9 s=true:=by unfold m9;rw[decide_eq_true h3,decide_eq_true a1];rfl
   have PX:=W4 s w h3 a1
   cases hmk:lp s
   .have hc:da s=2:=by unfold da;rw[a0,hmk];rfl
    have hr:an s=[]:=by unfold an;rw[a0,hmk];rfl
    rw[hc,hr];rw[hmk]at PX;clear a0 hc hr hmk;go_enter func120,ntmps120;go_wp2_with fail;refine PX.mono ?_;rintro e w1 ⟨rfl,rfl⟩;clear PX;go_wp2;go_ret2;exact⟨_,rfl,a2.out,bX⟩
   .have RO:=Ww s w h3 a1 hg
    have hc:da s=if (f4 s).isSome then 0 else 3:=by unfold da;rw[a0,hmk];rfl
    have hr:an s=(f4 s).getD []:=by unfold an;rw[a0,hmk];rfl
    rw[hmk]at PX;rw[hc,hr];clear a0 hc hr hmk
    cases hrl:f4 s with
    | none =>
     rw[hrl]at RO;clear hrl;go_enter func120,ntmps120;go_wp2_with fail;refine PX.mono ?_;rintro e w1 ⟨rfl,rfl⟩;clear PX;go_wp2_with fail;refine RO.mono ?_;rintro e w2 ⟨v2,rfl,_,b2⟩;clear RO;go_wp2;go_ret2;exact⟨_,rfl,World.ownsRow_nil _ _ _ _,b2⟩
    | some l =>
     rw[hrl]at RO;clear hrl;go_enter func120,ntmps120;go_wp2_with fail;refine PX.mono ?_;rintro e w1 ⟨rfl,rfl⟩;clear PX;go_wp2_with fail;refine RO.mono ?_;rintro e w2 ⟨v2,rfl,r2,b2⟩;clear RO;go_wp2;go_ret2;exact⟨_,rfl,r2,b2⟩
  .have n3:¬ (3:Int)≤(s.size:Int):=by omega
   have a0:m9 s=false:=by unfold m9;rw[decide_eq_false h3];rfl
   have hc:da s=1:=by unfold da;rw[a0];rfl
   have hr:an s=[]:=by unfold an;rw[a0];rfl
   rw[hc,hr];clear a0 hc hr;go_enter func120,ntmps120;go_wp2;go_ret2;exact⟨_,rfl,a2.out,bX⟩
 .have a3:¬ (s.size:Int)≤300:=by omega
  have a0:m9 s=false:=by unfold m9;rw[decide_eq_false a1,Bool.and_false]
  have hc:da s=1:=by unfold da;rw[a0];rfl
  have hr:an s=[]:=by unfold an;rw[a0];rfl
  rw[hc,hr];clear a0 hc hr;go_enter func120,ntmps120;go_wp2;go_ret2;exact⟨_,rfl,a2.out,bX⟩
theorem js {w:World} {B:Nat} {v:Value} {ss:List ByteArray}(h:ak w B v ss):∃ a c,v=.slice a ss.length c∧∀ (k:Nat) (x:ByteArray),ss[k]? = some x→∃ g,a=some ⟨g,0,none⟩∧∀ u,Below w.heap.size w u→∀ (j:Nat) (y:ByteArray),ss[j]? = some y→u.cell? ⟨g,j,none⟩=some (.string y):=by
 rcases h.form with ⟨rfl,rfl⟩|⟨g,cap,rfl,_,_⟩
 .exact⟨_,_,rfl,fun k x hx=>by simp at hx⟩
 .exact⟨_,_,rfl,fun k x hx=>⟨g,rfl,fun u hu j y hy=>(h.below hu).cell j y hy⟩⟩
theorem Rb {w:World} {g c n:Nat} {x:ByteArray}(hn:0<n) (a1:n≤1048576) (hx:w.cell? ⟨g,(n-1)*3,none⟩=some (.string x)) :
  Calls prog 121 #[.slice (some ⟨g,0,none⟩) n c] w fun e w'=>e=.returned (.string x)∧w'=w:=by
 obtain⟨m,rfl⟩:∃ m,n=m+1:=⟨n-1,by omega⟩
 have hm:m+1-1=m:=by omega
 rw[hm]at hx;have a0:=ag hx;have h1:((m+1:Nat):Int)-1=(m:Int):=by omega
 have h2:(m:Int)<((m+1:Nat):Int):=by omega
 go_enter func121,ntmps121;go_wp2;go_ret;exact⟨rfl,rfl⟩
def ax6 (w:World) (ss:List ByteArray) (vb i:Value) (wr:World):Prop :=
 ∃ (k hi:Nat) (vs:List Value),k≤ss.length∧i=.int .i64 (k:Int)∧bj wr w.heap.size hi vb (dp ss k) vs∧(∀ j s,j<k→ss[j]? = some s→da s=0)∧bkF (dp ss k) (ss.drop k)=ca ss∧Below w.heap.size w wr
def ax7 (w:World) (l:List Rw) (key:ByteArray) (vi vj:Value) (wr:World):Prop :=
 ∃ i j:Nat,i≤j∧j≤l.length∧vi=.int .i64 (i:Int)∧vj=.int .i64 (j:Int)∧bsF l key i j=az l key∧Below w.heap.size w wr
theorem Tw {w:World} {a:Option Addr} {c:Nat} {l:List Rw}(key:ByteArray) (hS:dd w a l) (hl:l.length≤1048576) :
  Calls prog 128 #[.slice a l.length c,.string key,.func (Fn.func 129) #[] #[]] w fun e w'=>e=.returned (.tuple #[.int .i64 (az l key:Int),.bool (d9 l key)])∧Below w.heap.size w w':=by
 have HS:Hid (dd w a l):=hS;obtain⟨R,HR⟩:∃ R,Hid (az l key=R):=⟨_,rfl⟩
 obtain⟨T,HT⟩:∃ T,Hid (d9 l key=T):=⟨_,rfl⟩
 rw[HR.out,HT.out];clear hS;go_enter func128,ntmps128;go_wp2_with fail;go_loopw [9,10] (fun vi vj wr=>ax7 w l key vi vj wr) (fun vi vj _=>(intOf vj).toNat-(intOf vi).toNat)
 case atStart=>exact⟨0,l.length,by omega,by omega,rfl,rfl,rfl,bX⟩
 case round =>
  obtain⟨i,j,q1,q2,rfl,rfl,hE,hb⟩:=hrel;have HE:Hid _:=hE;have HB:Hid (Below w.heap.size w wr):=hb;by_cases ab:i<j
  .have ac:(i:Int)<(j:Int):=by omega
   obtain⟨m,HM⟩:∃ m,Hid ((i+j) / 2=m):=⟨_,rfl⟩
   have hm:=HM.out;have ae:i≤m:=by omega
   have af:m<j:=by omega
   have ah:(m:Int)<(l.length:Int):=by omega
   obtain⟨x,hx⟩:∃ x,l[m]? = some x:=⟨_,List.getElem?_eq_getElem (by omega)⟩
   have a4:dh l ((i+j) / 2)=x:=by rw[hm];unfold dh;rw[hx];rfl
   rcases HS.out.below hb bR with h0|⟨b,o,rfl,hC⟩
   .rw[h0]at hx;simp at hx
   obtain⟨a0,a1,a2⟩:=hC m x hx;have ad:=ag a0;have PC:=Ct x key wr;have ai:IntKind.wrap .u64 ((i:Int)+(j:Int))=(i:Int)+(j:Int):=by
    show _=_
    unfold IntKind.wrap;simp[IntKind.signed,IntKind.bits]
    omega
   clear hC hx hE hb;by_cases hk:n7 x.key key<0
   .have a8:Hid (bsF l key (m+1) j=az l key):=by show _=_;rw[<- HE.out,Y3 ab (by rw[a4];exact hk),HM.out]
    clear a4 HE HM;generalize n7 x.key key=cv at *;go_wp2_with fail;refine PC.mono ?_;rintro e w2 ⟨rfl,b2⟩;have a3:Hid (Below w.heap.size w w2):=HB.out.trans (b2.mono HB.out.size);clear PC b2 HB;go_wp2;exact⟨⟨m+1,j,by omega,by omega,congrArg (Value.int IntKind.i64) (by omega),rfl,a8.out,a3.out⟩,by simp[intOf];omega⟩
   .have a8:Hid (bsF l key i m=az l key):=by show _=_;rw[<- HE.out,Mf ab (by rw[a4];exact hk),HM.out]
    clear a4 HE HM;generalize n7 x.key key=cv at *;go_wp2_with fail;refine PC.mono ?_;rintro e w2 ⟨rfl,b2⟩;have a3:Hid (Below w.heap.size w w2):=HB.out.trans (b2.mono HB.out.size);clear PC b2 HB;go_wp2;exact⟨⟨i,m,by omega,by omega,rfl,congrArg (Value.int IntKind.i64) (by omega),a8.out,a3.out⟩,by simp[intOf];omega⟩
  .have ac:¬ (i:Int)<(j:Int):=by omega
   have a5:Hid (R=i):=by show _=_;rw[<- HR.out,<- HE.out,Dp ab]
   by_cases a9:i<l.length
   .have aa:(i:Int)<(l.length:Int):=by omega
    obtain⟨x,hx⟩:∃ x,l[i]? = some x:=⟨_,List.getElem?_eq_getElem a9⟩
    have a4:dh l i=x:=by unfold dh;rw[hx];rfl
    have a7:Hid (T=decide (n7 x.key key=0)):=by show _=_;rw[<- HT.out];unfold d9;rw[HR.out,a5.out,a4,decide_eq_true a9,Bool.true_and]
    rcases HS.out.below hb bR with h0|⟨b,o,rfl,hC⟩
    .rw[h0]at hx;simp at hx
    obtain⟨a0,a1,a2⟩:=hC i x hx;have ad:=ag a0;have PC:=Ct x key wr;clear hC hx hE hb HE a4;by_cases hk:n7 x.key key=0
    .have a6:Hid (T=true):=by show _=_;rw[a7.out,decide_eq_true hk]
     clear a7;generalize n7 x.key key=cv at *;go_wp2_with fail;refine PC.mono ?_;rintro e w2 ⟨rfl,b2⟩;have a3:Hid (Below w.heap.size w w2):=HB.out.trans (b2.mono HB.out.size);clear PC b2 HB;go_wp2;go_ret2;rw[a5.out,a6.out];exact⟨rfl,a3.out⟩
    .have a6:Hid (T=false):=by show _=_;rw[a7.out,decide_eq_false hk]
     clear a7;generalize n7 x.key key=cv at *;go_wp2_with fail;refine PC.mono ?_;rintro e w2 ⟨rfl,b2⟩;have a3:Hid (Below w.heap.size w w2):=HB.out.trans (b2.mono HB.out.size);clear PC b2 HB;go_wp2;go_ret2;rw[a5.out,a6.out];exact⟨by simp[hk],a3.out⟩
   .have aa:¬ (i:Int)<(l.length:Int):=by omega
    have a6:Hid (T=false):=by show _=_;rw[<- HT.out];unfold d9;rw[HR.out,a5.out,decide_eq_false a9];rfl
    clear hE HE;go_wp2;go_ret2;rw[a5.out,a6.out];exact⟨rfl,hb⟩
theorem zf {w:World} {a:Option Addr} {c:Nat} {l:List Rw}(key:ByteArray) (hS:dd w a l) (hl:l.length≤1048576) :
  Calls prog 95 #[.slice a l.length c,.string key] w fun e w'=>e=.returned (.tuple #[.int .i64 (az l key:Int),.bool (d9 l key)])∧Below w.heap.size w w':=by
 have BS:=Tw (c:=c) key hS hl;generalize az l key=R at *;generalize d9 l key=T at *;clear hS;go_enter func95,ntmps95;go_wp2_with fail;refine BS.mono ?_;rintro e w2 ⟨rfl,b2⟩;clear BS;go_wp2;go_ret2;exact⟨rfl,b2⟩
theorem nf {w:World} {a9:Array Oper} {o:Oper} {a:Act} {K:Act→World→Prop} {Q:Exit→Act→World→Prop} {E:Prop}(a5:o.guard=none) (s x:Operand)
  (ho:o.op=.call { callee:=.builtin .append,args:=#[s,x],argTypes:=#[32,32] }) (b n:Nat) (a1:Nat) (vx:Value) (l l':List Rw) (hn:n=l.length) (hs:a.eval s=.slice (some ⟨b,a1,none⟩) n n) (hx:a.eval x=vx)
  (hS:dd w (some ⟨b,a1,none⟩) l) (hR:SlV w vx l') (h0:0<l'.length) (aa:l.length+l'.length≤1048576) (h:∀ v' w',Rws w' w.heap.size v' (l++l')→w.grownBy w' none→K (a.put o.dst v') w') :
  if Region.wanted o (yielded a9 a.tmps)=true then Oper.wp prog o a w K Q else E:=by
 rw[if_pos (by simp[Region.wanted,a5])];subst hn;obtain⟨i0,hi,a8,a6,a7⟩:=info_parts Ft;obtain⟨ax,cx,hv,hR⟩:=hR;rcases hR with rfl|⟨b',a3,rfl,hE⟩
 .simp at h0
 have a0:∀ j u,(go l)[j]? = some u→w.cell? ((⟨b,a1,none⟩:Addr).add j)=some u:=by
  rcases hS with rfl|⟨b2,o2,hb,a4⟩
  .intro j u hj;simp[go]at hj
  .cases hb
   exact Gc a4
 obtain⟨v',w',a2,r1,r2⟩:=run_append_arg_grows (P:=prog) w 32 o.type 37 i0 _ 3 48 underlying32 hi a8 a6 a7 rfl (by decide) ⟨b,a1,none⟩ l.length l.length (go l) (yk l) a0 ⟨b',a3,none⟩ l'.length cx (go l') (yk l') (Gc hE) (by omega) (by unfold maxLen;omega) (by omega);refine Go.Lib.wp_append_run w s x 32 32 ho _ _ hs (hx.trans hv) _ _ a2 ?_;refine h _ _ ?_ r2;unfold Rws;rw[List.length_append,xv];exact r1
theorem Px {w:World} {al:Option Addr} {l:List Rw} {cl:Nat}(x:Rw) (hS:dd w al l) (h0:∃ b o,al=some ⟨b,o,none⟩) (ak:l.length≤cl) (hc:cl≤9223372036854775807) (aj:l.length≤1000000) (hr:lm l) :
  Calls prog 124 #[.slice al l.length cl,.agg #[.string x.key,.string x.text,.string x.val]] w fun e w'=>∃ v,e=.returned v∧Rws w' w.heap.size v (gz l x)∧Below w.heap.size w w':=by
 obtain⟨b,o,rfl⟩:=h0;have bA:=(Below.refl w.heap.size w).alloc bR (.cells #[.string x.key,.string x.text,.string x.val] 37);have PL:=zf (c:=cl) x.key (hS.below bA bR) (by omega);have HX:Hid (di (w.alloc (.cells #[.string x.key,.string x.text,.string x.val] 37)) w.heap.size x):=ky w x;have a1:Hid _:=bA;have HS:Hid (dd w (some ⟨b,o,none⟩) l):=hS;have aq:=(n6 x.key hr).1;obtain⟨R,HR⟩:∃ R,Hid (gz l x=R):=⟨_,rfl⟩
 rw[HR.out];have a2:Hid (R=l.take (az l x.key)++([x]++l.drop (if d9 l x.key then az l x.key+1 else az l x.key))):=by show _=_;rw[<- HR.out];rfl
 have aa:d9 l x.key=true→az l x.key<l.length:=fun h=>(py hr h).2
 clear hS bA hr HR;generalize az l x.key=p at *;have ao:(p:Int)≤(cl:Int):=by omega
 have ap:(p:Int)≤(l.length:Int):=by omega
 have af:(l.take p).length=p:=by rw[List.length_take];omega
 have a3:Hid ((l.take p).length=p):=af;clear af
 cases hth:d9 l x.key
 .rw[hth]at PL a2
  simp only[Bool.false_eq_true,if_false]at a2;clear aa hth;by_cases ad:cl=p
  .subst ad
   have a5:Hid ((l.drop cl).length=0):=by show _=_;rw[List.length_drop];omega
   have a7:Hid (dd w (some ⟨b,o,none⟩) (l.drop cl)):=.inl (List.drop_eq_nil_of_le (by omega));have ah:l.length-cl=0:=by omega
   go_enter func124,ntmps124;go_wp2_with fail;refine PL.mono ?_;rintro e w2 ⟨rfl,b2⟩;have x2:=HX.out.below b2;obtain⟨d0,d1,d2⟩:=x2.cells;have a8:=x2.lt;have a0:Hid (Below w.heap.size w w2):=a1.out.trans (b2.mono a1.out.size);have bB:Below w2.heap.size w2 (w2.alloc (.cells #[.string x.key,.string x.text,.string x.val] 37)):=bY _;have S0:Hid (dd (w2.alloc (.cells #[.string x.key,.string x.text,.string x.val] 37)) (some ⟨b,o,none⟩) (l.take cl)):=((HS.out.below a0.out bR).take cl).below bB bR;have X0:Hid (SlV (w2.alloc (.cells #[.string x.key,.string x.text,.string x.val] 37)) (.slice (some ⟨w2.heap.size,0,none⟩) 1 1) [x]):=(gg w2 _ w2.heap.size x rfl bR).slV
   have VB:Hid (∀ u,Below w.heap.size w u→SlV u (.slice (some ⟨b,o,none⟩) 0 0) (l.drop cl)):=fun u hu=>⟨_,_,by rw[a5.out],a7.out.below hu bR⟩
   have ab:=a0.out.size;clear PL b2 x2 HX a1;go_upto_region 5 with fail
   go_cut [4] from 5 to 31 (fun v4 wx=>Rws wx w.heap.size v4 R∧Below w.heap.size w wx)
   case first =>
    go_region_law (first
     | (refine nf rfl (.tmp 26) (.tmp 28) rfl b cl o (.slice (some ⟨w2.heap.size,0,none⟩) 1 1) (l.take cl) [x] a3.out.symm rfl rfl (yn S0.out rfl) (gh X0.out rfl) (by simp) (by rw[a3.out];simp;omega) ?_;intro v6 w6 i6 g6;have b6:Below w.heap.size w w6:=Below.grown (by repeat (first|with_reducible exact (a0.out.trans (bB.mono a0.out.size))|with_reducible refine Below.drew ?_)) g6 (by simp;omega) (fun g e=>by cases e);have j6:=cz i6 (show w.heap.size≤_ by simp;omega);have ac:=b6.size;clear g6 i6)
     | (refine dz rfl (.tmp 29) (.tmp 30) rfl w.heap.size v6 _ (l.take cl++[x]) (l.drop cl) rfl rfl (kz j6 rfl) (gh (VB.out _ b6) rfl) (by simp;omega) (by first|omega|(simp;omega)) ?_;intro v7 w7 i7 g7;have b7:Below w.heap.size w w7:=Below.grown (by repeat (first|with_reducible exact b6|with_reducible refine Below.drew ?_)) g7 (by first|omega|(simp;omega)) (fun g e=>(World.ownsRow.lt j6 g e).1);clear g7))
    all_goals
     have hK:Rws w7 w.heap.size v7 R:=by rw[a2.out];simpa using i7
     clear i7;go_wp2_with fail;go_meet
     case rel=>exact⟨hK,b7⟩
   case rest =>
    obtain⟨r4,b4⟩:=hcut;have a6:Hid (Rws wc w.heap.size u4 R):=r4;have a4:Hid (Below w.heap.size w wc):=b4;clear r4 b4 VB S0 X0 d0 d1 d2 a8;go_wp2;go_ret;exact⟨_,rfl,a6.out,a4.out⟩
  .have a9:(cl == p)=false:=by simpa using ad
   have a5:Hid ((l.drop p).length=l.length-p):=by show _=_;rw[List.length_drop]
   have a7:Hid (dd w (some ⟨b,o+p*3,none⟩) (l.drop p)):=HS.out.drop p;go_enter func124,ntmps124;go_wp2_with fail;refine PL.mono ?_;rintro e w2 ⟨rfl,b2⟩;have x2:=HX.out.below b2;obtain⟨d0,d1,d2⟩:=x2.cells;have a8:=x2.lt;have a0:Hid (Below w.heap.size w w2):=a1.out.trans (b2.mono a1.out.size);have bB:Below w2.heap.size w2 (w2.alloc (.cells #[.string x.key,.string x.text,.string x.val] 37)):=bY _;have S0:Hid (dd (w2.alloc (.cells #[.string x.key,.string x.text,.string x.val] 37)) (some ⟨b,o,none⟩) (l.take p)):=((HS.out.below a0.out bR).take p).below bB bR;have X0:Hid (SlV (w2.alloc (.cells #[.string x.key,.string x.text,.string x.val] 37)) (.slice (some ⟨w2.heap.size,0,none⟩) 1 1) [x]):=(gg w2 _ w2.heap.size x rfl bR).slV
   have VB:Hid (∀ u,Below w.heap.size w u→SlV u (.slice (some ⟨b,o+p*3,none⟩) (l.length-p) (cl-p)) (l.drop p)):=fun u hu=>⟨_,_,by rw[a5.out],a7.out.below hu bR⟩
   have ab:=a0.out.size;clear PL b2 x2 HX a1;go_upto_region 5 with fail
   go_cut [4] from 5 to 31 (fun v4 wx=>Rws wx w.heap.size v4 R∧Below w.heap.size w wx)
   case first =>
    go_region_law (first
     | (refine nf rfl (.tmp 26) (.tmp 28) rfl b p o (.slice (some ⟨w2.heap.size,0,none⟩) 1 1) (l.take p) [x] a3.out.symm rfl rfl (yn S0.out rfl) (gh X0.out rfl) (by simp) (by rw[a3.out];simp;omega) ?_;intro v6 w6 i6 g6;have b6:Below w.heap.size w w6:=Below.grown (by repeat (first|with_reducible exact (a0.out.trans (bB.mono a0.out.size))|with_reducible refine Below.drew ?_)) g6 (by simp;omega) (fun g e=>by cases e);have j6:=cz i6 (show w.heap.size≤_ by simp;omega);have ac:=b6.size;clear g6 i6)
     | (refine dz rfl (.tmp 29) (.tmp 30) rfl w.heap.size v6 _ (l.take p++[x]) (l.drop p) rfl rfl (kz j6 rfl) (gh (VB.out _ b6) rfl) (by simp;omega) (by first|omega|(simp;omega)) ?_;intro v7 w7 i7 g7;have b7:Below w.heap.size w w7:=Below.grown (by repeat (first|with_reducible exact b6|with_reducible refine Below.drew ?_)) g7 (by first|omega|(simp;omega)) (fun g e=>(World.ownsRow.lt j6 g e).1);clear g7))
    all_goals
     have hK:Rws w7 w.heap.size v7 R:=by rw[a2.out];simpa using i7
     clear i7;go_wp2_with fail;go_meet
     case rel=>exact⟨hK,b7⟩
   case rest =>
    obtain⟨r4,b4⟩:=hcut;have a6:Hid (Rws wc w.heap.size u4 R):=r4;have a4:Hid (Below w.heap.size w wc):=b4;clear r4 b4 VB S0 X0 d0 d1 d2 a8;go_wp2;go_ret;exact⟨_,rfl,a6.out,a4.out⟩
 .rw[hth]at PL a2
  simp only[if_true]at a2;have ar:=aa hth;clear aa hth;have a9:(cl == p)=false:=by simp;omega
  have an:(p:Int)+1≤(cl:Int):=by omega
  have am:(p:Int)+1≤(l.length:Int):=by omega
  have av:IntKind.i64.wrap ((p:Int)+1)=(p:Int)+1:=by rw[IntKind.wrap_i64];omega
  have au:((p:Int)+1).toNat=p+1:=by omega
  have aw:(0:Int)≤(p:Int)+1:=by omega
  by_cases ae:cl=p+1
  .subst ae
   have ai:(p:Int)≤(p:Int)+1:=by omega
   have a5:Hid ((l.drop (p+1)).length=0):=by show _=_;rw[List.length_drop];omega
   have ah:l.length-(p+1)=0:=by omega
   have a7:Hid (dd w (some ⟨b,o,none⟩) (l.drop (p+1))):=.inl (List.drop_eq_nil_of_le (by omega));go_enter func124,ntmps124;go_wp2_with fail;refine PL.mono ?_;rintro e w2 ⟨rfl,b2⟩;have x2:=HX.out.below b2;obtain⟨d0,d1,d2⟩:=x2.cells;have a8:=x2.lt;have a0:Hid (Below w.heap.size w w2):=a1.out.trans (b2.mono a1.out.size);have bB:Below w2.heap.size w2 (w2.alloc (.cells #[.string x.key,.string x.text,.string x.val] 37)):=bY _;have S0:Hid (dd (w2.alloc (.cells #[.string x.key,.string x.text,.string x.val] 37)) (some ⟨b,o,none⟩) (l.take p)):=((HS.out.below a0.out bR).take p).below bB bR;have X0:Hid (SlV (w2.alloc (.cells #[.string x.key,.string x.text,.string x.val] 37)) (.slice (some ⟨w2.heap.size,0,none⟩) 1 1) [x]):=(gg w2 _ w2.heap.size x rfl bR).slV
   have VB:Hid (∀ u,Below w.heap.size w u→SlV u (.slice (some ⟨b,o,none⟩) 0 0) (l.drop (p+1))):=fun u hu=>⟨_,_,by rw[a5.out],a7.out.below hu bR⟩
   have ab:=a0.out.size;clear PL b2 x2 HX a1;go_upto_region 5 with fail
   go_cut [4] from 5 to 31 (fun v4 wx=>Rws wx w.heap.size v4 R∧Below w.heap.size w wx)
   case first =>
    go_region_law (first
     | (refine nf rfl (.tmp 26) (.tmp 28) rfl b p o (.slice (some ⟨w2.heap.size,0,none⟩) 1 1) (l.take p) [x] a3.out.symm rfl rfl (yn S0.out rfl) (gh X0.out rfl) (by simp) (by rw[a3.out];simp;omega) ?_;intro v6 w6 i6 g6;have b6:Below w.heap.size w w6:=Below.grown (by repeat (first|with_reducible exact (a0.out.trans (bB.mono a0.out.size))|with_reducible refine Below.drew ?_)) g6 (by simp;omega) (fun g e=>by cases e);have j6:=cz i6 (show w.heap.size≤_ by simp;omega);have ac:=b6.size;clear g6 i6)
     | (refine dz rfl (.tmp 29) (.tmp 30) rfl w.heap.size v6 _ (l.take p++[x]) (l.drop (p+1)) rfl rfl (kz j6 rfl) (gh (VB.out _ b6) rfl) (by simp;omega) (by first|omega|(simp;omega)) ?_;intro v7 w7 i7 g7;have b7:Below w.heap.size w w7:=Below.grown (by repeat (first|with_reducible exact b6|with_reducible refine Below.drew ?_)) g7 (by first|omega|(simp;omega)) (fun g e=>(World.ownsRow.lt j6 g e).1);clear g7))
    all_goals
     have hK:Rws w7 w.heap.size v7 R:=by rw[a2.out];simpa using i7
     clear i7;go_wp2_with fail;go_meet
     case rel=>exact⟨hK,b7⟩
   case rest =>
    obtain⟨r4,b4⟩:=hcut;have a6:Hid (Rws wc w.heap.size u4 R):=r4;have a4:Hid (Below w.heap.size w wc):=b4;clear r4 b4 VB S0 X0 d0 d1 d2 a8;go_wp2;go_ret;exact⟨_,rfl,a6.out,a4.out⟩
  .have ag:(cl == p+1)=false:=by simpa using ae
   have a5:Hid ((l.drop (p+1)).length=l.length-(p+1)):=by show _=_;rw[List.length_drop]
   have a7:Hid (dd w (some ⟨b,o+(p+1)*3,none⟩) (l.drop (p+1))):=HS.out.drop (p+1);go_enter func124,ntmps124;go_wp2_with fail;refine PL.mono ?_;rintro e w2 ⟨rfl,b2⟩;have x2:=HX.out.below b2;obtain⟨d0,d1,d2⟩:=x2.cells;have a8:=x2.lt;have a0:Hid (Below w.heap.size w w2):=a1.out.trans (b2.mono a1.out.size);have bB:Below w2.heap.size w2 (w2.alloc (.cells #[.string x.key,.string x.text,.string x.val] 37)):=bY _;have S0:Hid (dd (w2.alloc (.cells #[.string x.key,.string x.text,.string x.val] 37)) (some ⟨b,o,none⟩) (l.take p)):=((HS.out.below a0.out bR).take p).below bB bR;have X0:Hid (SlV (w2.alloc (.cells #[.string x.key,.string x.text,.string x.val] 37)) (.slice (some ⟨w2.heap.size,0,none⟩) 1 1) [x]):=(gg w2 _ w2.heap.size x rfl bR).slV
   have VB:Hid (∀ u,Below w.heap.size w u→SlV u (.slice (some ⟨b,o+(p+1)*3,none⟩) (l.length-(p+1)) (cl-(p+1))) (l.drop (p+1))):=fun u hu=>⟨_,_,by rw[a5.out],a7.out.below hu bR⟩
   have ab:=a0.out.size;clear PL b2 x2 HX a1;go_upto_region 5 with fail
   go_cut [4] from 5 to 31 (fun v4 wx=>Rws wx w.heap.size v4 R∧Below w.heap.size w wx)
   case first =>
    go_region_law (first
     | (refine nf rfl (.tmp 26) (.tmp 28) rfl b p o (.slice (some ⟨w2.heap.size,0,none⟩) 1 1) (l.take p) [x] a3.out.symm rfl rfl (yn S0.out rfl) (gh X0.out rfl) (by simp) (by rw[a3.out];simp;omega) ?_;intro v6 w6 i6 g6;have b6:Below w.heap.size w w6:=Below.grown (by repeat (first|with_reducible exact (a0.out.trans (bB.mono a0.out.size))|with_reducible refine Below.drew ?_)) g6 (by simp;omega) (fun g e=>by cases e);have j6:=cz i6 (show w.heap.size≤_ by simp;omega);have ac:=b6.size;clear g6 i6)
     | (refine dz rfl (.tmp 29) (.tmp 30) rfl w.heap.size v6 _ (l.take p++[x]) (l.drop (p+1)) rfl rfl (kz j6 rfl) (gh (VB.out _ b6) rfl) (by simp;omega) (by first|omega|(simp;omega)) ?_;intro v7 w7 i7 g7;have b7:Below w.heap.size w w7:=Below.grown (by repeat (first|with_reducible exact b6|with_reducible refine Below.drew ?_)) g7 (by first|omega|(simp;omega)) (fun g e=>(World.ownsRow.lt j6 g e).1);clear g7))
    all_goals
     have hK:Rws w7 w.heap.size v7 R:=by rw[a2.out];simpa using i7
     clear i7;go_wp2_with fail;go_meet
     case rel=>exact⟨hK,b7⟩
   case rest =>
    obtain⟨r4,b4⟩:=hcut;have a6:Hid (Rws wc w.heap.size u4 R):=r4;have a4:Hid (Below w.heap.size w wc):=b4;clear r4 b4 VB S0 X0 d0 d1 d2 a8;go_wp2;go_ret;exact⟨_,rfl,a6.out,a4.out⟩
theorem Sb (w:World) (x:Rw) :
  Calls prog 124 #[.slice none 0 0,.agg #[.string x.key,.string x.text,.string x.val]] w fun e w'=>∃ v,e=.returned v∧Rws w' w.heap.size v [x]∧Below w.heap.size w w':=by
 have bA:=(Below.refl w.heap.size w).alloc bR (.cells #[.string x.key,.string x.text,.string x.val] 37);have PL:Calls prog 95 #[.slice none 0 0,.string x.key] (w.alloc (.cells #[.string x.key,.string x.text,.string x.val] 37)) fun e w'=>e=.returned (.tuple #[.int .i64 0,.bool false])∧Below (w.alloc (.cells #[.string x.key,.string x.text,.string x.val] 37)).heap.size (w.alloc (.cells #[.string x.key,.string x.text,.string x.val] 37)) w':=by
  have q:=zf (w:=w.alloc (.cells #[.string x.key,.string x.text,.string x.val] 37)) (a:=none) (c:=0) (l:=[]) x.key (.inl rfl) (by simp);rw[show az [] x.key=0 from Dp (by simp),show d9 [] x.key=false by (unfold d9;simp)]at q;exact q
 have HX:Hid (di (w.alloc (.cells #[.string x.key,.string x.text,.string x.val] 37)) w.heap.size x):=ky w x;have a1:Hid _:=bA;clear bA;go_enter func124,ntmps124;go_wp2_with fail;refine PL.mono ?_;rintro e w2 ⟨rfl,b2⟩;have x2:=HX.out.below b2;obtain⟨d0,d1,d2⟩:=x2.cells;have a5:=x2.lt;have a0:Hid (Below w.heap.size w w2):=a1.out.trans (b2.mono a1.out.size);have bB:Below w2.heap.size w2 (w2.alloc (.cells #[.string x.key,.string x.text,.string x.val] 37)):=bY _;have X0:Hid (SlV (w2.alloc (.cells #[.string x.key,.string x.text,.string x.val] 37)) (.slice (some ⟨w2.heap.size,0,none⟩) 1 1) [x]):=(gg w2 _ w2.heap.size x rfl bR).slV;have a2:Hid (Below w.heap.size w (w2.alloc (.cells #[.string x.key,.string x.text,.string x.val] 37))):=a0.out.trans (bB.mono a0.out.size);have a6:=a0.out.size
 have a7:=a2.out.size;clear PL b2 x2 HX a1 bB;go_upto_region 5 with fail
 go_cut [4] from 5 to 31 (fun v4 wx=>Rws wx w.heap.size v4 [x]∧Below w.heap.size w wx)
 case first =>
  go_region_law (first
   | (refine dz rfl (.tmp 26) (.tmp 28) rfl w.heap.size (.slice none 0 0) (.slice (some ⟨w2.heap.size,0,none⟩) 1 1) [] [x] rfl rfl (World.ownsRow_nil _ _ _ _) (gh X0.out rfl) (by simp) (by first|omega|(simp;omega)) ?_;intro v6 w6 i6 g6;have b6:Below w.heap.size w w6:=Below.grown (by repeat (first|with_reducible exact a2.out|with_reducible refine Below.drew ?_)) g6 (by first|omega|(simp;omega)) (fun j hj=>by cases hj);have j6:Rws w6 w.heap.size v6 [x]:=i6;have a8:=b6.size)
   | (refine dz rfl (.tmp 29) (.tmp 30) rfl w.heap.size v6 (.slice none 0 0) [x] [] rfl rfl (kz j6 rfl) ⟨none,0,rfl,.inl rfl⟩ (by simp) (by first|omega|(simp;omega)) ?_;intro v7 w7 i7 g7;have b7:Below w.heap.size w w7:=Below.grown (by repeat (first|with_reducible exact b6|with_reducible refine Below.drew ?_)) g7 (by first|omega|(simp;omega)) (fun g e=>(World.ownsRow.lt j6 g e).1)))
  all_goals
   have hK:Rws w7 w.heap.size v7 [x]:=by simpa using i7
   clear i7;go_wp2_with fail;go_meet
   case rel=>exact⟨hK,b7⟩
 case rest =>
  obtain⟨r4,b4⟩:=hcut;have a4:Hid (Rws wc w.heap.size u4 [x]):=r4;have a3:Hid (Below w.heap.size w wc):=b4;clear r4 b4 X0 d0 d1 d2 a5;go_wp2;go_ret;exact⟨_,rfl,a4.out,a3.out⟩
theorem Pw {w:World} {B:Nat} {v:Value} {l:List Rw}(x:Rw) (hS:Rws w B v l) (a0:l.length≤1000000) (hr:lm l) :
  Calls prog 124 #[v,.agg #[.string x.key,.string x.text,.string x.val]] w fun e w'=>∃ v,e=.returned v∧Rws w' w.heap.size v (gz l x)∧Below w.heap.size w w':=by
 rcases hS.form with ⟨rfl,rfl⟩|⟨g,cap,rfl,h1,h2⟩
 .have e:gz [] x=[x]:=by unfold gz;simp
  rw[e];exact Sb w x
 .exact Px x (ew hS) ⟨g,0,rfl⟩ h1 (by unfold maxLen at h2;omega) a0 hr
end Go.Proofs.YtjbmgghehdemdaaGreatDoor
