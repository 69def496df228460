/- SCut6 -/
import Derived.Test.YtjbmgghehdemdaaGreatDoorMT22
import Derived.Test.YtjbmgghehdemdaaGreatDoorMT27
namespace Go.Proofs.YtjbmgghehdemdaaGreatDoor
set_option maxRecDepth 100000
set_option maxHeartbeats 16000000
open _root_.Go.Proofs.Tryz
open Go.RowKit
def az5 (w:World) (l:List Rw) (R:Option (List (List Rw))) (v4 i:Value) (wr:World):Prop :=
 ∃ (k hi:Nat) (out:List (List Rw)) (vs:List Value),k≤l.length∧i=.int .i64 (k:Int)∧bj wr w.heap.size hi v4 out vs∧out.flatten=l.take k∧(∀ p ∈ out,0<p.length)∧scF out (l.drop k)=R∧Below w.heap.size w wr
theorem Mx {out:List (List Rw)} {l:List Rw} {k:Nat}(h:out.flatten=l.take k) (hp:∀ p ∈ out,0<p.length):out.length≤l.length:=by
 have h1:∀ (o:List (List Rw)),(∀ p ∈ o,0<p.length)→o.length≤o.flatten.length:=by
  intro o;induction o with
  | nil=>intro _;simp
  | cons p o ih =>
   intro hp;have:=ih (fun q hq=>hp q (by simp[hq]));have:=hp p (by simp);simp at *;omega
 have:=h1 out hp;rw[h,List.length_take]at this;omega
theorem My {out:List (List Rw)} {l p:List Rw} {k:Nat}(h:out.flatten=l.take k) (hp:p ∈ out):(∀ y ∈ p,y ∈ l)∧p.length≤l.length:=by
 refine⟨fun y hy=>?_,?_⟩
 .have:y ∈ out.flatten:=List.mem_flatten.2 ⟨p,hp,hy⟩
  rw[h]at this;exact List.mem_of_mem_take this
 .have h2:p.length≤out.flatten.length:=by
   obtain⟨s,t,rfl⟩:=List.append_of_mem hp;simp
   omega
  rw[h,List.length_take]at h2;omega
theorem Jy {out:List (List Rw)} {l:List Rw} {k:Nat} {x:Rw}(h:out.flatten=l.take k) (hx:l[k]? = some x):(out++[[x]]).flatten=l.take (k+1):=by
 rw[List.take_add_one,hx,List.flatten_append,h];simp
theorem Z2 {o:List (List Rw)} {p l:List Rw} {k:Nat} {x:Rw}(h:(o++[p]).flatten=l.take k) (hx:l[k]? = some x):(o++[p++[x]]).flatten=l.take (k+1):=by
 rw[List.take_add_one,hx,<- h];simp
theorem C5 (w:World) (n:Nat) (x:Value) (t:TypeId) (hn:n=w.heap.size):∀ j u,[x][j]? = some u→(w.alloc (.cells #[x] t)).cell? ((⟨n,0,none⟩:Addr).add j)=some u:=by
 subst hn;exact cell_one_new w x t
theorem ag9 (o:List (List Rw)) (p q:List Rw):(o++[p]).set o.length q=o++[q]:=by simp
theorem Tz (r:List (List Rw)):(vg (some r)).isSome=decide ((r.length:Int)≤40):=by
 show (if r.length≤40 then some r else none).isSome=_
 by_cases h:r.length≤40
 .have h8:(r.length:Int)≤40:=by omega
  rw[if_pos h,decide_eq_true h8];rfl
 .have h8:¬ (r.length:Int)≤40:=by omega
  rw[if_neg h,decide_eq_false h8];rfl
theorem Pe {w:World} {a:Option Addr} {l:List Rw} {c:Nat}(hS:dd w a l) (hg:dm l=true) (hl:l.length≤c) (hc:c≤9223372036854775807) :
  Calls prog 80 #[.slice a l.length c] w fun e w'=>∃ v,e=.returned (.tuple #[v,.bool (vg (scF [] l)).isSome])∧(∀ gs,scF [] l=some gs→∃ vs,bj w' w.heap.size w'.heap.size v gs vs)∧(scF [] l=none→v=.slice none 0 0)∧Below w.heap.size w w':=by
 obtain⟨R,HR⟩:∃ R,Hid (scF [] l=R):=⟨_,rfl⟩
 rw[HR.out];have bs:=mz hg;have aF:Hid (RwB l):=ud hg;have HS:Hid (dd w a l):=hS;obtain⟨i1,hi1,aW,aX,aY⟩:=info_parts Fu;clear hS hg;go_enter func80,ntmps80;go_wp2_with fail;go_loopw [4,11] (fun v4 i wr=>az5 w l R v4 i wr) (fun _ i _=>l.length-(intOf i).toNat)
 case atStart=>exact⟨0,_,[],[],Nat.zero_le _,rfl,bj.nil w _,by simp,fun p hp=>by simp at hp,HR.out,bX⟩
 case round =>
  obtain⟨k,hi,out,vs,hk,rfl,hN,ax,az,hE,hb⟩:=hrel;obtain⟨a4,c4,bn,fm⟩:=hN.form;subst bn;have bH:=Mx ax az;by_cases bh:k<l.length
  .obtain⟨x,hx⟩:∃ x,l[k]? = some x:=⟨_,List.getElem?_eq_getElem bh⟩
   rcases HS.out with h0|⟨b,o,rfl,aR⟩
   .rw[h0]at hx;simp at hx
   have bw:(k:Int)<(l.length:Int):=by omega
   have bv:(k:Int)+1≤(c:Int):=by omega
   have bu:(c == k)=false:=by simp;omega
   have bp:IntKind.i64.wrap ((k:Int)+1)=(k:Int)+1:=by rw[IntKind.wrap_i64];omega
   have bM:((k:Int)+1).toNat=k+1:=by omega
   obtain⟨e0,e1,e2⟩:=aR k x hx;have ac:=ag e0;have a0:wr.cell? ⟨b,o+k*3,none⟩=some (.string x.key):=(hb.cell ac).trans e0;have a1:wr.cell? ⟨b,o+k*3+1,none⟩=some (.string x.text):=(hb.cell ac).trans e1;have a2:wr.cell? ⟨b,o+k*3+2,none⟩=some (.string x.val):=(hb.cell ac).trans e2;have bt:=ag a0;have b5:Hid (dd w (some ⟨b,o+k*3,none⟩) [x]):=.inr ⟨b,o+k*3,rfl,fun j e he=>by
    match j,he with
    | 0,he=>simp at he;subst he;simpa using ⟨e0,e1,e2⟩⟩
   obtain⟨z0,z1,z2⟩:=aF.out.at hx;have aP:Hid (RwB [x]):=⟨by simp,fun y hy=>by simp at hy;subst hy;exact⟨z0,z1,z2⟩⟩;have bA:Below wr.heap.size wr (wr.alloc (.cells #[.string x.key,.string x.text,.string x.val] 37)):=bY _;have PG:Calls prog 81 #[.slice (some ⟨b,o+k*3,none⟩) 1 (c-k)] (wr.alloc (.cells #[.string x.key,.string x.text,.string x.val] 37)) fun e w'=>e=.returned (.string (byT (et [x])))∧(Below wr.heap.size wr w'∧di w' wr.heap.size x) :=
    (rq (cap:=c-k) (l:=[x]) (b5.out.below (hb.trans (bA.mono hb.size)) bR) aP.out).mono fun e w' h=>⟨h.1,bA.trans (h.2.mono bA.size),(ky wr x).below h.2⟩
   have ak:Hid ((byT (et [x])).size=lnP [x]):=qe _;have HN:Hid (bj wr w.heap.size hi _ out vs):=hN;have ai:Hid (Below w.heap.size w wr):=hb;have ar:Hid (out.flatten=l.take k):=ax;have aD:Hid (∀ p ∈ out,0<p.length):=az;have HE:Hid (scF out (l.drop k)=R):=hE;have ah:Hid (l.drop k=x::l.drop (k+1)):=aq1 hx;have HX:Hid (l[k]? = some x):=hx;have br:Hid _:=fm;generalize byT (et [x])=s1 at *;clear hN ax az hE hx fm aR e0 e1 e2 ac hb bA;have bK:s1.size≤196098:=by rw[ak.out];exact Cl aP.out
   by_cases a7:300<s1.size
   .have aG:Hid (R=none):=by show _=_;rw[<- HE.out,ah.out];exact xw (by rw[<- ak.out];exact a7)
    have aH:(300:Int)<(s1.size:Int):=by omega
    go_wp2_with fail;refine PG.mono ?_;rintro e w2 ⟨rfl,b2,_⟩;have a3:Hid (Below w.heap.size w w2):=ai.out.trans (b2.mono ai.out.size);clear PG b2;go_wp2;go_ret2;rw[aG.out];exact⟨_,rfl,fun gs h=>(by cases h),fun _=>rfl,a3.out⟩
   .have aH:¬ (300:Int)<(s1.size:Int):=by omega
    go_wp2_with fail;refine PG.mono ?_;rintro e w2 ⟨rfl,b2,x2⟩;have a3:Hid (Below w.heap.size w w2):=ai.out.trans (b2.mono ai.out.size);have aa:Hid (bj w2 w.heap.size hi _ out vs):=HN.out.below b2;have am:Hid (di w2 wr.heap.size x):=x2;obtain⟨d0,d1,d2⟩:=x2.cells;have bq:=x2.lt;clear PG b2 x2 ai HN a0 a1 a2;by_cases h0:out.length=0
    .obtain rfl:out=[]:=List.eq_nil_of_length_eq_zero h0
     have aj:Hid (scF [[x]] (l.drop (k+1))=R):=by show _=_;rw[<- HE.out,ah.out,yl (by rw[<- ak.out];exact a7)]
     have bB:Below w2.heap.size w2 ((w2.alloc (.cells #[.string x.key,.string x.text,.string x.val] 37)).alloc (.cells #[.slice (some ⟨w2.heap.size,0,none⟩) 1 1] 32)):=(bY _).alloc (by simp) _;have a5:=(aa.out.below bB).row;have r3:=gg w2 w2.heap.size w2.heap.size x rfl bR;have al:Hid (Rws _ w2.heap.size (.slice (some ⟨w2.heap.size,0,none⟩) 1 1) [x]):=r3.below (bY (.cells #[.slice (some ⟨w2.heap.size,0,none⟩) 1 1] 32));have bm:=a3.out.size;have ab:Hid _:=bB;clear r3 HE bB
     go_wp2_with (at_builtin;refine wpList_append_lies _ rfl _ _ 132 rfl w.heap.size 32 i1 (.slice none 0 0) 1 24 underlying132 hi1 aW aX aY rfl (by decide) _ _ _ rfl a5 ⟨_,0,none⟩ 1 1 [.slice (some ⟨w2.heap.size,0,none⟩) 1 1] rfl rfl (C5 _ _ _ _ (by simp)) (fun x hx=>by simp at hx;subst hx;rfl) (by omega) (by unfold maxLen;omega) (by omega) (by simp;omega) _ rfl ?_)
     intro g5 c5 u5 aq ae aI aJ;have N5:=aa.out.push a3.out.size ab.out al.out ae aq;have aA:Hid (Below w.heap.size w u5):=Below.grown (a3.out.trans (ab.out.mono a3.out.size)) ae (Nat.le_trans a3.out.size ab.out.size) (fun i hj=>(World.ownsRow.lt a5 i hj).1);have aC:Hid _:=N5;clear N5 al ae aq a5 aa a3 ab;go_wp2;exact⟨⟨k+1,_,[[x]],_,by omega,by go_num,aC.out,Jy (out:=[]) ar.out HX.out,fun p hp=>by simp at hp;subst hp;simp,aj.out,aA.out⟩,by simp[intOf];omega⟩
    .obtain⟨o',p,HO⟩:∃ o' p,Hid (out=o'++[p]):=by
      rcases List.eq_nil_or_concat out with h|⟨o',p,h⟩
      .rw[h]at h0;simp at h0
      .exact⟨o',p,by show _=_;rw[h];simp⟩
     obtain⟨m,HM⟩:∃ m,Hid (out.length=m+1):=⟨out.length-1,(by show _=_;omega)⟩
     have bi:m<out.length:=by rw[HM.out];omega
     have bx:(0:Int)<(out.length:Int):=by omega
     have bC:(out.length:Int)-1=(m:Int):=by have:=HM.out;omega
     have bD:(m:Int)<(out.length:Int):=by omega
     have aM:Hid (o'.length=m):=by have h1:=HM.out;have h2:=congrArg List.length HO.out;simp at h2;show _=_;omega
     have ay:out[m]? = some p:=by rw[HO.out,<- aM.out];simp
     obtain⟨vp,aU,hI,_⟩:=aa.out.ins m p ay;obtain⟨a9,c9,aT,aQ⟩:=aa.out.form;obtain⟨gb,bd,bf,_,cb,fz⟩:=aQ m vp aU;obtain⟨rfl,rfl⟩:a4=a9∧c4=c9:=by
      injection aT with q1 q2 q3;exact⟨q1,q3⟩
     subst bd;have bb:=ag cb;obtain⟨aS,bJ⟩:=My ar.out (List.mem_of_getElem? ay);have b3:Hid (∀ y ∈ p,y ∈ l):=aS;obtain⟨ap,cp,rfl⟩:=bz hI;have au:Hid (SlV w2 (.slice ap p.length cp) p):=hI.slV;have bI:=aD.out p (List.mem_of_getElem? ay);clear hI aU aQ ay aT aS fz a7;have bN:IntKind.i64.wrap (m:Int)=(m:Int):=by rw[IntKind.wrap_i64];omega
     have bE:Below w2.heap.size w2 (w2.alloc (.cells #[] 37)):=bY _;have R0:Hid (Rws (w2.alloc (.cells #[] 37)) w2.heap.size (.slice (some ⟨w2.heap.size,0,none⟩) 0 0) []):=sn w2 _ _ rfl bR;have S0:Hid (SlV (w2.alloc (.cells #[] 37)) (.slice ap p.length cp) p):=au.out.below bE bR;have bF:Below w2.heap.size w2 ((w2.alloc (.cells #[] 37)).alloc (.cells #[.string x.key,.string x.text,.string x.val] 37)):=bE.alloc (by simp) _;have R1:Hid (Rws ((w2.alloc (.cells #[] 37)).alloc (.cells #[.string x.key,.string x.text,.string x.val] 37)) w2.heap.size (.slice (some ⟨w2.heap.size,0,none⟩) 0 0) []):=R0.out.below (bY _);have S1:Hid (SlV ((w2.alloc (.cells #[] 37)).alloc (.cells #[.string x.key,.string x.text,.string x.val] 37)) (.slice ap p.length cp) p):=au.out.below bF bR
     have X1:Hid (Rws ((w2.alloc (.cells #[] 37)).alloc (.cells #[.string x.key,.string x.text,.string x.val] 37)) w2.heap.size (.slice (some ⟨w2.heap.size+1,0,none⟩) 1 1) [x]):=gg _ _ _ x (by simp) (by simp);have bG:Below w2.heap.size w2 ((w2.alloc (.cells #[.string x.key,.string x.text,.string x.val] 37)).alloc (.cells #[] 37)):=(bY _).alloc (by simp) _;have R2:Hid (Rws ((w2.alloc (.cells #[.string x.key,.string x.text,.string x.val] 37)).alloc (.cells #[] 37)) w2.heap.size (.slice (some ⟨w2.heap.size+1,0,none⟩) 0 0) []):=sn _ _ _ (by simp) (by simp);have S2:Hid (SlV ((w2.alloc (.cells #[.string x.key,.string x.text,.string x.val] 37)).alloc (.cells #[] 37)) (.slice ap p.length cp) p):=au.out.below bG bR
     have X2:Hid (Rws ((w2.alloc (.cells #[.string x.key,.string x.text,.string x.val] 37)).alloc (.cells #[] 37)) w2.heap.size (.slice (some ⟨w2.heap.size,0,none⟩) 1 1) [x]):=(gg w2 _ _ x rfl bR).below (bY _);go_upto_region 9 with fail
     go_cut [8,11] from 11 to 52 (fun v8 i wx=>i=.int .i64 (k:Int)∧Rws wx w2.heap.size v8 (p++[x])∧Below w2.heap.size w2 wx)
     case first =>
      go_region_law (first
       | (refine dz rfl (.tmp 28) (.tmp 33) rfl w2.heap.size (.slice (some ⟨w2.heap.size,0,none⟩) 0 0) (.slice ap p.length cp) [] p rfl rfl (kz R0.out rfl) (gh S0.out rfl) (by simp;omega) (by first|(simp;done)|(simp;omega)) ?_;intro v6 w6 i6 g6;have b6:Below w2.heap.size w2 w6:=Below.grown (by repeat (first|with_reducible exact bE|with_reducible refine Below.drew ?_)) g6 (by first|(simp;done)|(simp;omega)) (fun g e=>by cases e;first|exact bR|exact Nat.le_succ _);have x6:=am.out.below b6;obtain⟨f0,f1,f2⟩:=x6.cells;have aV:=x6.lt;have aZ:=b6.size;clear g6)
       | (refine dz rfl (.tmp 28) (.tmp 33) rfl w2.heap.size (.slice (some ⟨w2.heap.size,0,none⟩) 0 0) (.slice ap p.length cp) [] p rfl rfl (kz R1.out rfl) (gh S1.out rfl) (by simp;omega) (by first|(simp;done)|(simp;omega)) ?_;intro v6 w6 i6 g6;have b6:Below w2.heap.size w2 w6:=Below.grown (by repeat (first|with_reducible exact bF|with_reducible refine Below.drew ?_)) g6 (by first|(simp;done)|(simp;omega)) (fun g e=>by cases e;first|exact bR|exact Nat.le_succ _);have aL:=Td g6 X1.out rfl (by simp[Value.ownBlock]);have x6:=am.out.below b6;obtain⟨f0,f1,f2⟩:=x6.cells;have aV:=x6.lt;have aZ:=b6.size;clear g6)
       | (refine dz rfl (.tmp 28) (.tmp 33) rfl w2.heap.size (.slice (some ⟨w2.heap.size+1,0,none⟩) 0 0) (.slice ap p.length cp) [] p rfl rfl (kz R2.out rfl) (gh S2.out rfl) (by simp;omega) (by first|(simp;done)|(simp;omega)) ?_;intro v6 w6 i6 g6;have b6:Below w2.heap.size w2 w6:=Below.grown (by repeat (first|with_reducible exact bG|with_reducible refine Below.drew ?_)) g6 (by first|(simp;done)|(simp;omega)) (fun g e=>by cases e;first|exact bR|exact Nat.le_succ _);have aL:=Td g6 X2.out rfl (by simp[Value.ownBlock]);have x6:=am.out.below b6;obtain⟨f0,f1,f2⟩:=x6.cells;have aV:=x6.lt;have aZ:=b6.size;clear g6)
       | (refine dz rfl (.tmp 34) (.tmp 36) rfl w2.heap.size v6 (.slice (some ⟨w6.heap.size,0,none⟩) 1 1) ([]++p) [x] rfl rfl (kz (i6.below (bY (.cells #[.string x.key,.string x.text,.string x.val] 37))) rfl) (gh (gg w6 w6.heap.size w6.heap.size x rfl bR).slV rfl) (by simp;omega) (by first|omega|(simp;omega)) ?_;intro v7 w7 i7 g7;have b7:Below w2.heap.size w2 w7:=Below.grown (by repeat (first|with_reducible exact (b6.alloc b6.size _)|with_reducible refine Below.drew ?_)) g7 (by first|omega|(simp;omega)) (fun g e=>(World.ownsRow.lt i6 g e).1);clear g7)
       | (refine dz rfl (.tmp 34) (.tmp 36) rfl w2.heap.size v6 (.slice (some ⟨w2.heap.size+1,0,none⟩) 1 1) ([]++p) [x] rfl rfl (kz i6 rfl) (gh aL rfl) (by simp;omega) (by first|omega|(simp;omega)) ?_;intro v7 w7 i7 g7;have b7:Below w2.heap.size w2 w7:=Below.grown (by repeat (first|with_reducible exact b6|with_reducible refine Below.drew ?_)) g7 (by first|omega|(simp;omega)) (fun g e=>(World.ownsRow.lt i6 g e).1);clear g7)
       | (refine dz rfl (.tmp 34) (.tmp 36) rfl w2.heap.size v6 (.slice (some ⟨w2.heap.size,0,none⟩) 1 1) ([]++p) [x] rfl rfl (kz i6 rfl) (gh aL rfl) (by simp;omega) (by first|omega|(simp;omega)) ?_;intro v7 w7 i7 g7;have b7:Below w2.heap.size w2 w7:=Below.grown (by repeat (first|with_reducible exact b6|with_reducible refine Below.drew ?_)) g7 (by first|omega|(simp;omega)) (fun g e=>(World.ownsRow.lt i6 g e).1);clear g7))
      all_goals
       have hK:Rws w7 w2.heap.size v7 (p++[x]):=by simpa using i7
       clear i7;go_wp2_with fail;go_meet
       case rel=>exact⟨rfl,hK,b7⟩
     case rest =>
      obtain⟨rfl,r8,b8⟩:=hcut;obtain⟨q,HQ⟩:∃ q,Hid (q=p++[x]):=⟨_,rfl⟩
      rw[<- HQ.out]at r8;have bk:q.length=p.length+1:=by rw[HQ.out];simp
      have aN:Hid (RwB q):=by
       rw[HQ.out];refine⟨by simp;omega,fun y hy=>?_⟩;rcases List.mem_append.1 hy with hy|hy
       .exact aF.out.2 y (b3.out y hy)
       .simp at hy;subst hy;exact⟨z0,z1,z2⟩
      obtain⟨a8,c8,bo⟩:=bz r8;subst bo;have av:Calls prog 81 #[.slice a8 q.length c8] wc fun e w'=>e=.returned (.string (byT (et q)))∧Below wc.heap.size wc w':=rq (ew r8) aN.out
      have ad:Hid ((byT (et q)).size=lnP q):=qe _;generalize byT (et q)=s2 at *;have bL:s2.size≤196098:=by rw[ad.out];exact Cl aN.out
      have bl:q.length≤61:=by omega
      have aE:Hid (Rws wc w2.heap.size (.slice a8 q.length c8) q):=r8;have af:Hid (Below w2.heap.size w2 wc):=b8;clear r8 b8 bE R0 S0 bF R1 S1 X1 bG R2 S2 X2 au aF bk;by_cases an:s2.size≤300
      .have ao:(s2.size:Int)≤300:=by omega
       have aj:Hid (scF (o'++[q]) (l.drop (k+1))=R):=by
        show _=_
        rw[<- HE.out,ah.out,HO.out,xx (by rw[<- ak.out];omega) (by rw[<- HQ.out,<- ad.out];exact an),HQ.out]
       clear HE ah;go_wp2_with fail;refine av.mono ?_;rintro e w9 ⟨rfl,b9⟩;have a6:Hid (Below w2.heap.size w2 w9):=af.out.trans (b9.mono af.out.size);have aO:Hid (Rws w9 w2.heap.size (.slice a8 q.length c8) q):=aE.out.below b9;have ba:w9.cell? ⟨gb,m,none⟩=some (.slice ap p.length cp):=(a6.out.cell bb).trans cb;have be:=ag ba;have bc:w9.frozen? ⟨gb,m,none⟩=false:=World.ownsRow.frozenAt (aa.out.below a6.out).row m;have b0:Hid (Below w.heap.size w (w9.setCell ⟨gb,m,none⟩ (.slice a8 q.length c8))):=(a3.out.trans (a6.out.mono a3.out.size)).setCell bf _;have b4:Hid (out.set m q=o'++[q]):=by show _=_;rw[HO.out,<- aM.out];exact ag9 _ _ _
       have aK:=aa.out.store a3.out.size a6.out aO.out bi;rw[b4.out]at aK;have b1:Hid _:=aK;clear aK av b9 a6 aO af aE cb aa a3;go_wp2;refine⟨⟨k+1,_,o'++[q],_,by omega,by go_num,b1.out,by rw[HQ.out];exact Z2 (by rw[<- HO.out];exact ar.out) HX.out,fun y hy=>?_,aj.out,b0.out⟩,by simp[intOf];omega⟩;rcases List.mem_append.1 hy with hy|hy
       .exact aD.out y (by rw[HO.out];exact List.mem_append_left _ hy)
       .simp at hy;rw[hy,HQ.out];simp
      .have ao:¬ (s2.size:Int)≤300:=by omega
       have aj:Hid (scF (out++[[x]]) (l.drop (k+1))=R):=by
        show _=_
        rw[<- HE.out,ah.out,HO.out,zz (by rw[<- ak.out];omega) (by rw[<- HQ.out,<- ad.out];exact an)]
       clear HE ah;go_wp2_with fail;refine av.mono ?_;rintro e w9 ⟨rfl,b9⟩;have aw:Below w2.heap.size w2 w9:=af.out.trans (b9.mono af.out.size);have a6:Hid (Below w.heap.size w w9):=a3.out.trans (aw.mono a3.out.size);have aB:Hid (bj w9 w.heap.size hi _ out vs):=aa.out.below aw;have x9:=am.out.below aw;obtain⟨f0,f1,f2⟩:=x9.cells;have bO:=x9.lt;have bB:Below w9.heap.size w9 ((w9.alloc (.cells #[.string x.key,.string x.text,.string x.val] 37)).alloc (.cells #[.slice (some ⟨w9.heap.size,0,none⟩) 1 1] 32)):=(bY _).alloc (by simp) _;have a5:=(aB.out.below bB).row;have r3:=gg w9 w9.heap.size w9.heap.size x rfl bR;have al:Hid (Rws _ w9.heap.size (.slice (some ⟨w9.heap.size,0,none⟩) 1 1) [x]):=r3.below (bY (.cells #[.slice (some ⟨w9.heap.size,0,none⟩) 1 1] 32));have bm:=a6.out.size
       have ab:Hid _:=bB;clear r3 bB av b9 aw x9 af aE cb aa a3 am d0 d1 d2;go_wp2_with (at_builtin;refine wpList_append_lies _ rfl _ _ 132 rfl w.heap.size 32 i1 (.slice none 0 0) 1 24 underlying132 hi1 aW aX aY rfl (by decide) _ _ _ rfl a5 ⟨_,0,none⟩ 1 1 [.slice (some ⟨w9.heap.size,0,none⟩) 1 1] rfl rfl (C5 _ _ _ _ (by simp)) (fun x hx=>by simp at hx;subst hx;rfl) (by omega) (by unfold maxLen;omega) (by omega) (by simp;omega) _ rfl ?_)
       intro g5 c5 u5 aq ae aI aJ;have N5:=aB.out.push a6.out.size ab.out al.out ae aq;have aA:Hid (Below w.heap.size w u5):=Below.grown (a6.out.trans (ab.out.mono a6.out.size)) ae (Nat.le_trans a6.out.size ab.out.size) (fun i hj=>(World.ownsRow.lt a5 i hj).1);have aC:Hid _:=N5;clear N5 al ae aq a5 aB a6 ab;go_wp2;refine⟨⟨k+1,_,out++[[x]],_,by omega,by go_num,aC.out,Jy ar.out HX.out,fun y hy=>?_,aj.out,aA.out⟩,by simp[intOf];omega⟩;rcases List.mem_append.1 hy with hy|hy
       .exact aD.out y hy
       .simp at hy;rw[hy];simp
  .have bg:k=l.length:=by omega
   subst bg;have aG:Hid (R=some out):=by show _=_;rw[<- hE,List.drop_length];rfl
   have HN:Hid (bj wr w.heap.size hi _ out vs):=hN;have HB:Hid (Below w.heap.size w wr):=hb;clear hN ax az hE fm hb;go_wp2;go_ret2;rw[aG.out,Tz];exact⟨_,rfl,fun gs h=>by obtain rfl:=Option.some.inj h;exact⟨_,HN.out.high HN.out.top bR⟩,fun h=>(by cases h),HB.out⟩
theorem Ip {l:List Rw}(hg:dm l=true):ur l=vg (scF [] l):=by unfold ur;rw[if_pos hg,am1]
theorem a80 {o:Option (List (List Rw))} {gs:List (List Rw)}(h:vg o=some gs):o=some gs:=by
 cases o with
 | none=>cases h
 | some r =>
  have h':(if r.length≤40 then some r else none)=some gs:=h;split at h'
  .exact h'
  .cases h'
def pgT (g:List Rw):ByteArray:=byT (et g)
def pu (l:List Rw):Option (List ByteArray):=match ur l with
 | none=>none
 | some gs=>some (gs.map pbT)
theorem zd {l:List Rw}(h:ur l=none):pu l=none:=by unfold pu;rw[h]
theorem ze {l:List Rw} {gs:List (List Rw)}(h:ur l=some gs):pu l=some (gs.map pbT):=by unfold pu;rw[h]
theorem Ga (l:List Rw):∀ (out r:List (List Rw)),scF out l=some r→r.flatten=out.flatten++l:=by
 induction l with
 | nil =>
  intro out r h;have h':some out=some r:=h
  cases h'
  simp
 | cons x l ih =>
  intro out r h;by_cases h0:300<lnP [x]
  .rw[xw h0]at h;cases h
  .cases hg:out.getLast? with
   | none =>
    obtain rfl:out=[]:=List.getLast?_eq_none_iff.1 hg;rw[yl h0]at h;rw[ih _ _ h];simp
   | some p =>
    obtain⟨o,rfl⟩:∃ o,out=o++[p]:=List.getLast?_eq_some_iff.1 hg
    by_cases h1:lnP (p++[x])≤300
    .rw[xx h0 h1]at h
     rw[ih _ _ h];simp
    .rw[zz h0 h1]at h
     rw[ih _ _ h];simp
theorem aq3 {l:List Rw} {r:List (List Rw)}(hg:dm l=true) (h:scF [] l=some r):(∀ g ∈ r,RwB g):=by
 have hf:=Ga l [] r h;intro g hm;have hB:=ud hg;have a0:=mz hg;obtain⟨h1,h2⟩:=My (out:=r) (l:=l) (k:=l.length) (by rw[hf];simp) hm;exact⟨by omega,fun x hx=>hB.2 x (h1 x hx)⟩
theorem Jg:∀ (ss:List ByteArray) (acc gs:List (List Rw)),bkF acc ss=some gs→gs=acc++ss.map an∧∀ s ∈ ss,da s=0
 | [],acc,gs,h=>by
  have h':some acc=some gs:=h
  cases h'
  simp
 | s::ss,acc,gs,h=>by
  unfold bkF at h;by_cases ho:ft acc s=true
  .rw[if_pos ho]at h
   obtain⟨h1,h2⟩:=Jg ss _ gs h;refine⟨by rw[h1];simp,fun t ht=>?_⟩;rcases List.mem_cons.1 ht with rfl|ht
   .unfold ft at ho
    rw[Bool.and_eq_true,decide_eq_true_eq]at ho;exact ho.1
   .exact h2 t ht
  .rw[if_neg ho]at h
   cases h
theorem Q8 {ss:List ByteArray} {gs:List (List Rw)}(h:ca ss=some gs):gs=ss.map an∧∀ s ∈ ss,da s=0:=by
 unfold ca at h;split at h
 .have:=Jg ss [] gs h
  simpa using this
 .cases h
theorem Yg {l:List Rw} {gs:List (List Rw)}(h:ur l=some gs):dm l=true∧gs.flatten=l:=by
 by_cases hg:dm l=true
 .refine⟨hg,?_⟩
  rw[Ip hg]at h
  cases hs:scF [] l with
  | none=>rw[hs]at h;cases h
  | some r =>
   rw[hs]at h;have hr:=Ga l [] r hs;unfold vg at h;simp only at h;split at h
   .cases h
    simpa using hr
   .cases h
 .unfold ur at h
  rw[if_neg hg]at h
  cases h
theorem Ay {l:List Rw} {p:List ByteArray}(h:pu l=some p):∃ gs,ca p=some gs∧gs.flatten=l∧gs=p.map an∧(∀ s ∈ p,da s=0)∧p.length≤40∧∀ s ∈ p,s.size≤300:=by
 cases hc:ur l with
 | none=>rw[zd hc]at h;cases h
 | some gs =>
  rw[ze hc]at h
  cases h
  obtain⟨hg,hf⟩:=Yg hc;obtain⟨a1,a0⟩:=Sm hc;have hm:gs.map pbT=gs.map pgB:=List.map_congr_left fun g hgm=>av7 (a0 g hgm)
  have hb:=a84 hg hf a0;have a2:ca (gs.map pbT)=some gs:=by
   rw[hm,Tv hb,if_pos ⟨a1,fun g hgm=>(ad3 (a0 g hgm)).1⟩]
  obtain⟨h1,h2⟩:=Q8 a2;refine⟨gs,a2,hf,h1,h2,by simpa using a1,fun s hs=>?_⟩;obtain⟨g,_,rfl⟩:=List.mem_map.1 hs;exact ae2 g
theorem Ru {w:World} {a:Option Addr} {l:List Rw} {c:Nat}(hS:dd w a l) (hg:dm l=true) (hl:l.length≤c) (hc:c≤9223372036854775807) :
  Calls prog 36 #[.slice a l.length c] w fun e w'=>∃ v,e=.returned (.tuple #[v,.bool (vg (scF [] l)).isSome])∧(∀ gs,scF [] l=some gs→ak w' w.heap.size v (gs.map pgT))∧Below w.heap.size w w':=by
 have CT:=Pe hS hg hl hc;obtain⟨i0,hi0,au,av,aw⟩:=info_parts Kb;obtain⟨ok,aa⟩:∃ ok,Hid ((vg (scF [] l)).isSome=ok):=⟨_,rfl⟩
 rw[aa.out]at CT ⊢;obtain⟨gs,a2⟩:∃ gs,Hid ((scF [] l).getD []=gs):=⟨_,rfl⟩
 have ah:Hid (∀ g ∈ gs,RwB g):=by
  rw[<- a2.out]
  cases h:scF [] l with
  | none=>exact fun g hg=>by simp at hg
  | some r=>exact aq3 hg h
 have af:Hid (gs.length≤60):=by
  rw[<- a2.out]
  cases h:scF [] l with
  | none=>exact Nat.zero_le _
  | some r =>
   have hf:=Ga l [] r h;have hp:∀ (ll:List Rw) (out q:List (List Rw)),(∀ p ∈ out,0<p.length)→scF out ll=some q→∀ p ∈ q,0<p.length:=by
    intro ll;induction ll with
    | nil =>
     intro out q ho h;have h':some out=some q:=h
     cases h'
     exact ho
    | cons x ll ih =>
     intro out q ho h;by_cases h0:300<lnP [x]
     .rw[xw h0]at h;cases h
     .cases hgl:out.getLast? with
      | none =>
       obtain rfl:out=[]:=List.getLast?_eq_none_iff.1 hgl;rw[yl h0]at h;exact ih _ _ (fun p hp=>by simp at hp;subst hp;simp) h
      | some p =>
       obtain⟨o,rfl⟩:∃ o,out=o++[p]:=List.getLast?_eq_some_iff.1 hgl
       by_cases h1:lnP (p++[x])≤300
       .rw[xx h0 h1]at h
        refine ih _ _ (fun y hy=>?_) h;rcases List.mem_append.1 hy with hy|hy
        .exact ho y (List.mem_append_left _ hy)
        .simp at hy;rw[hy];simp
       .rw[zz h0 h1]at h
        refine ih _ _ (fun y hy=>?_) h;rcases List.mem_append.1 hy with hy|hy
        .exact ho y hy
        .simp at hy;rw[hy];simp
   have al:=mz hg;have hq:=Mx (out:=r) (l:=l) (k:=l.length) (by rw[hf];simp) (hp l [] r (fun p hp=>by simp at hp) h);show r.length≤60
   omega
 have a9:Hid (∀ (u:World) (lo:Nat) (v:Value),(∀ gs,scF [] l=some gs→∃ vs,bj u lo u.heap.size v gs vs)→(scF [] l=none→v=.slice none 0 0)→BkV u v gs):=fun u lo v h1 h2=>by
  rw[<- a2.out]
  cases h:scF [] l with
  | none=>rw[h2 h];exact (bj.nil u lo).bk
  | some r=>obtain⟨vs,q⟩:=h1 r h;exact q.bk
 have a7:Hid (∀ gs',scF [] l=some gs'→gs'=gs):=fun gs' h=>by rw[<- a2.out,h];rfl
 clear hS hg a2 aa;generalize scF [] l=sc at *;have al:=af.out;go_enter func36,ntmps36;go_wp2_with fail;refine CT.mono ?_;rintro e w1 ⟨v1,rfl,n1,n2,b1⟩;have V1:=a9.out w1 _ v1 n1 n2;obtain⟨a1,c1,rfl,_⟩:=V1;have HV:Hid (BkV w1 (.slice a1 gs.length c1) gs):=a9.out w1 _ _ n1 n2;have a5:Hid (Below w.heap.size w w1):=b1;clear CT n1 n2 b1;go_wp2_with fail;go_loopw [6,16] (fun v i wr=>ax8 w1 gs pgT (fun _=>true) v i wr) (fun _ i _=>gs.length-(intOf i).toNat)
 case atStart=>exact⟨0,Nat.zero_le _,rfl,World.ownsRow_nil _ _ _ _,fun j g hj _=>rfl,bX⟩
 case round =>
  obtain⟨k,hk,rfl,hS,_,hb⟩:=hrel;by_cases ao:k<gs.length
  .obtain⟨g,hg⟩:∃ g,gs[k]? = some g:=⟨_,List.getElem?_eq_getElem ao⟩
   obtain⟨a',c',aq,hq⟩:=HV.out.below hb bR;injection aq with q1 _ q3;subst q1;subst q3;obtain⟨b,o,ax,cx,rfl,d1,ad⟩:=hq k g hg;have ay:=ag d1;have az:(k:Int)<(gs.length:Int):=by omega
   have PB:Calls prog 81 #[.slice ax g.length cx] wr fun e w'=>e=.returned (.string (pgT g))∧Below wr.heap.size wr w':=rq (cap:=cx) ad (ah.out g (List.mem_of_getElem? hg))
   have HT:Hid ((gs.take (k+1)).map pgT=(gs.take k).map pgT++[pgT g]):=Lc pgT hg;have a8:((gs.take k).map pgT).length≤60:=by simp;omega
   obtain⟨ss,aj⟩:∃ ss,Hid ((gs.take k).map pgT=ss):=⟨_,rfl⟩
   rw[aj.out]at HT a8 hS;obtain⟨a4,c4,ar⟩:=ip hS;subst ar;have HS:Hid (ak wr w1.heap.size (.slice a4 ss.length c4) ss):=hS;have HB:Hid (Below w1.heap.size w1 wr):=hb;clear hq ad hg hS hb;generalize pgT g=pg at *;go_wp2_with fail;refine PB.mono ?_;rintro e w2 ⟨rfl,b2⟩;have a3:Hid (Below w1.heap.size w1 w2):=HB.out.trans (b2.mono HB.out.size);have bA:=(Below.refl w2.heap.size w2).alloc bR (.cells #[.string pg] 9);have a0:=(HS.out.below b2).below bA;have a6:Hid (Below w1.heap.size w1 _):=a3.out.trans (bA.mono a3.out.size);have aA:=a3.out.size;unfold ak at a0;clear PB b2 HS HB bA
   go_wp2_with (at_builtin;refine wpList_append_lies _ rfl _ _ 23 rfl w1.heap.size 9 i0 _ 1 16 underlying23 hi0 au av aw rfl (by decide) _ _ _ rfl a0 ⟨_,0,none⟩ 1 1 [.string pg] rfl rfl (cell_one_new _ _ _) (fun x hx=>by simp at hx;subst hx;rfl) (by omega) (by unfold maxLen;omega) (by omega) (by simp;omega) _ rfl ?_)
   intro g5 c5 u5 ac ab am ap;have ai:Hid (ak u5 w1.heap.size (.slice (some ⟨g5,0,none⟩) (ss.length+1) c5) ((gs.take (k+1)).map pgT)):=by rw[HT.out];exact ak.snoc ac
   have ae:Hid (Below w1.heap.size w1 u5):=Below.grown a6.out ab a6.out.size (fun i hj=>(World.ownsRow.lt a0 i hj).1);clear ac ab a0 a3 a6;go_wp2;exact⟨⟨k+1,by omega,by go_num,ai.out,fun j g hj _=>rfl,ae.out⟩,by simp[intOf];omega⟩
  .have an:k=gs.length:=by omega
   subst an;rw[List.take_length]at hS;have HS:Hid (ak wr w.heap.size u6 (gs.map pgT)):=by
    refine⟨hS.1,?_⟩;rcases hS.2 with h|⟨g,cap,cur,q1,q2,q3⟩
    .exact .inl h
    .exact .inr ⟨g,cap,cur,q1,Nat.le_trans a5.out.size q2,q3⟩
   have HB:Hid (Below w.heap.size w wr):=a5.out.trans (hb.mono a5.out.size);clear hS hb;go_wp2;go_ret2;exact⟨_,rfl,fun gs' h=>by rw[a7.out gs' h];exact HS.out,HB.out⟩
end Go.Proofs.YtjbmgghehdemdaaGreatDoor
