/- SCut6 -/
import Derived.Test.YtjbmgghehdemdaaGreatDoorMR17
namespace Go.Proofs.YtjbmgghehdemdaaGreatDoor
set_option maxRecDepth 100000
set_option maxHeartbeats 16000000
open _root_.Go.Proofs.Tryz
open Go.RowKit
def az6 (w:World) (l:List Rw) (R:Option (List (List Rw))) (v4 i:Value) (wr:World):Prop :=
 ∃ (k hi:Nat) (out:List (List Rw)) (vs:List Value),k<=l.length/\i=.int .i64 (k:Int)/\bj wr w.heap.size hi v4 out vs/\out.flatten=l.take k/\(∀ p ∈ out,0<p.length)/\scF out (l.drop k)=R/\Below w.heap.size w wr
theorem Mx {out:List (List Rw)} {l:List Rw} {k:Nat}(h:out.flatten=l.take k) (a:∀ p ∈ out,0<p.length):out.length<=l.length:=by
 have b:∀ (o:List (List Rw)),(∀ p ∈ o,0<p.length)->o.length<=o.flatten.length:=by
  intro o;induction o with
  | nil=>intro _;simp
  | cons p o ih =>
   intro a;have:=ih (fun q hq=>a q (by simp[hq]));have:=a p (by simp);simp at *;omega
 have:=b out a;rw[h,List.length_take]at this;omega
theorem My {out:List (List Rw)} {l p:List Rw} {k:Nat}(h:out.flatten=l.take k) (a:p ∈ out):(∀ y ∈ p,y ∈ l)/\p.length<=l.length:=by
 refine⟨fun y hy=>?_,?_⟩
 .have:y ∈ out.flatten:=List.mem_flatten.2 ⟨p,a,hy⟩
  rw[h]at this;exact List.mem_of_mem_take this
 .have b:p.length<=out.flatten.length:=by
   obtain⟨s,t,rfl⟩:=List.append_of_mem a;simp
   omega
  rw[h,List.length_take]at b;omega
theorem Jy {out:List (List Rw)} {l:List Rw} {k:Nat} {x:Rw}(h:out.flatten=l.take k) (a:l[k]? = some x):(out++[[x]]).flatten=l.take (k+1):=by
 rw[List.take_add_one,a,List.flatten_append,h];simp
theorem Z3 {o:List (List Rw)} {p l:List Rw} {k:Nat} {x:Rw}(h:(o++[p]).flatten=l.take k) (a:l[k]? = some x):(o++[p++[x]]).flatten=l.take (k+1):=by
 rw[List.take_add_one,a,<- h];simp
theorem C5 (w:World) (n:Nat) (x:Value) (t:TypeId) (hn:n=w.heap.size):∀ j u,[x][j]? = some u->(w.alloc (.cells #[x] t)).cell? ((⟨n,0,none⟩:Addr).add j)=some u:=by
 subst hn;exact cell_one_new w x t
theorem ah0 (o:List (List Rw)) (p q:List Rw):(o++[p]).set o.length q=o++[q]:=by simp
theorem Tz (r:List (List Rw)):(vg (some r)).isSome=decide ((r.length:Int)<=40):=by
 show (if r.length<=40 then some r else none).isSome=_
 by_cases h:r.length<=40
 .have a:(r.length:Int)<=40:=by omega
  rw[if_pos h,decide_eq_true a];rfl
 .have a:¬ (r.length:Int)<=40:=by omega
  rw[if_neg h,decide_eq_false a];rfl
theorem Pe {w:World} {a:Option Addr} {l:List Rw} {c:Nat}(hS:dd w a l) (hg:dm l=true) (hl:l.length<=c) (hc:c<=9223372036854775807) :
  Calls prog 80 #[.slice a l.length c] w fun e w'=>∃ v,e=.returned (.tuple #[v,.bool (vg (scF [] l)).isSome])/\(∀ gs,scF [] l=some gs->∃ vs,bj w' w.heap.size w'.heap.size v gs vs)/\(scF [] l=none->v=.slice none 0 0)/\Below w.heap.size w w':=by
 obtain⟨R,HR⟩:∃ R,Hid (scF [] l=R):=⟨_,rfl⟩
 rw[HR.out];have bd:=mz hg;have ao:Hid (RwB l):=ud hg;have HS:=hZ hS;obtain⟨i1,hi1,aI,aJ,aK⟩:=info_parts Fu;clear hS hg;go_enter func80,ntmps80;go_wp2_with fail;go_loopw [4,11] (fun v4 i wr=>az6 w l R v4 i wr) (fun _ i _=>l.length-(intOf i).toNat)
 case atStart=>exact⟨0,_,[],[],Nat.zero_le _,rfl,bj.nil w _,by simp,fun p hp=>by simp at hp,HR.out,bX⟩
 case round =>
  obtain⟨k,hi,out,vs,hk,rfl,hN,af,ai,hE,B⟩:=hrel;obtain⟨a4,c4,b4,fm⟩:=hN.form;subst b4;have bm:=Mx af ai;by_cases aY:k<l.length
  .obtain⟨x,r⟩:∃ x,l[k]? = some x:=⟨_,List.getElem?_eq_getElem aY⟩
   rcases HS.out with h0|⟨b,o,rfl,aD⟩
   .rw[h0]at r;simp at r
   have bh:(k:Int)<(l.length:Int):=by omega
   have bg:(k:Int)+1<=(c:Int):=by omega
   have bf:(c == k)=false:=by simp;omega
   have ba:IntKind.i64.wrap ((k:Int)+1)=(k:Int)+1:=by rw[IntKind.wrap_i64];omega
   have br:((k:Int)+1).toNat=k+1:=by omega
   obtain⟨e0,e1,e2⟩:=aD k x r;have a5:=ag e0;have a0:wr.cell? ⟨b,o+k*3,none⟩=some (.string x.key):=(B.cell a5).trans e0;have a1:wr.cell? ⟨b,o+k*3+1,none⟩=some (.string x.text):=(B.cell a5).trans e1;have a2:wr.cell? ⟨b,o+k*3+2,none⟩=some (.string x.val):=(B.cell a5).trans e2;have be:=ag a0;have aQ:Hid (dd w (some ⟨b,o+k*3,none⟩) [x]):=.inr ⟨b,o+k*3,rfl,fun j e he=>by
    match j,he with
    | 0,he=>simp at he;subst he;simpa using ⟨e0,e1,e2⟩⟩
   obtain⟨z0,z1,z2⟩:=ao.out.at r;have aB:Hid (RwB [x]):=⟨by simp,fun y f=>by simp at f;subst f;exact⟨z0,z1,z2⟩⟩;have bA:Below wr.heap.size wr (wr.alloc (.cells #[.string x.key,.string x.text,.string x.val] 37)):=bY _;have PG:Calls prog 81 #[.slice (some ⟨b,o+k*3,none⟩) 1 (c-k)] (wr.alloc (.cells #[.string x.key,.string x.text,.string x.val] 37)) fun e w'=>e=.returned (.string (byT (et [x])))/\(Below wr.heap.size wr w'/\di w' wr.heap.size x) :=
    (rq (cap:=c-k) (l:=[x]) (aQ.out.below (B.trans (bA.mono B.size)) bR) aB.out).mono fun e w' h=>⟨h.1,bA.trans (h.2.mono bA.size),(ky wr x).below h.2⟩
   have V:Hid ((byT (et [x])).size=lnP [x]):=qe _;have Z:Hid (bj wr w.heap.size hi _ out vs):=hN;have T:=hZ B;have ab:=hZ af;have am:=hZ ai;have L:=hZ hE;have P:Hid (l.drop k=x::l.drop (k+1)):=aq2 r;have HX:=hZ r;have bc:Hid _:=fm;generalize byT (et [x])=s1 at *;clear hN af ai hE r fm aD e0 e1 e2 a5 B bA;have bp:s1.size<=196098:=by rw[V.out];exact Cl aB.out
   by_cases a3:300<s1.size
   .have aq:Hid (R=none):=by show _=_;rw[<- L.out,P.out];exact xw (by rw[<- V.out];exact a3)
    have ar:(300:Int)<(s1.size:Int):=by omega
    go_wp2_with fail;refine PG.mono ?_;rintro e d ⟨rfl,Q,_⟩;have n:=hZ (T.out.trans (Q.mono T.out.size));clear PG Q;go_wp2;go_ret2;rw[aq.out];exact⟨_,rfl,fun gs h=>(by cases h),fun _=>rfl,n.out⟩
   .have ar:¬ (300:Int)<(s1.size:Int):=by omega
    go_wp2_with fail;refine PG.mono ?_;rintro e d ⟨rfl,Q,x2⟩;have n:=hZ (T.out.trans (Q.mono T.out.size));have u:Hid (bj d w.heap.size hi _ out vs):=Z.out.below Q;have X:=hZ x2;obtain⟨d0,d1,d2⟩:=x2.cells;have bb:=x2.lt;clear PG Q x2 T Z a0 a1 a2;by_cases h0:out.length=0
    .obtain rfl:out=[]:=List.eq_nil_of_length_eq_zero h0
     have U:Hid (scF [[x]] (l.drop (k+1))=R):=by show _=_;rw[<- L.out,P.out,yl (by rw[<- V.out];exact a3)]
     have N:Below d.heap.size d ((d.alloc (.cells #[.string x.key,.string x.text,.string x.val] 37)).alloc (.cells #[.slice (some ⟨d.heap.size,0,none⟩) 1 1] 32)):=(bY _).alloc (by simp) _;have K:=(u.out.below N).row;have r3:=gg d d.heap.size d.heap.size x rfl bR;have W:Hid (Rws _ d.heap.size (.slice (some ⟨d.heap.size,0,none⟩) 1 1) [x]):=r3.below (bY (.cells #[.slice (some ⟨d.heap.size,0,none⟩) 1 1] 32));have b3:=n.out.size;have A:Hid _:=N;clear r3 L N
     go_wp2_with (at_builtin;refine wpList_append_lies _ rfl _ _ 132 rfl w.heap.size 32 i1 (.slice none 0 0) 1 24 underlying132 hi1 aI aJ aK rfl (by decide) _ _ _ rfl K ⟨_,0,none⟩ 1 1 [.slice (some ⟨d.heap.size,0,none⟩) 1 1] rfl rfl (C5 _ _ _ _ (by simp)) (fun x r=>by simp at r;subst r;rfl) (by omega) (by unfold maxLen;omega) (by omega) (by simp;omega) _ rfl ?_)
     intro g5 c5 u5 Y J au av;have N5:=u.out.push n.out.size A.out W.out J Y;have aj:Hid (Below w.heap.size w u5):=Below.grown (n.out.trans (A.out.mono n.out.size)) J (Nat.le_trans n.out.size A.out.size) (fun i hj=>(World.ownsRow.lt K i hj).1);have al:Hid _:=N5;clear N5 W J Y K u n A;go_wp2;exact⟨⟨k+1,_,[[x]],_,by omega,by go_num,al.out,Jy (out:=[]) ab.out HX.out,fun p hp=>by simp at hp;subst hp;simp,U.out,aj.out⟩,by simp[intOf];omega⟩
    .obtain⟨H,p,M⟩:∃ H p,Hid (out=H++[p]):=by
      rcases List.eq_nil_or_concat out with h|⟨H,p,h⟩
      .rw[h]at h0;simp at h0
      .exact⟨H,p,by show _=_;rw[h];simp⟩
     obtain⟨m,HM⟩:∃ m,Hid (out.length=m+1):=⟨out.length-1,(by show _=_;omega)⟩
     have aZ:m<out.length:=by rw[HM.out];omega
     have bi:(0:Int)<(out.length:Int):=by omega
     have bk:(out.length:Int)-1=(m:Int):=by have:=HM.out;omega
     have bl:(m:Int)<(out.length:Int):=by omega
     have ay:Hid (H.length=m):=by have h1:=HM.out;have h2:=congrArg List.length M.out;simp at h2;show _=_;omega
     have ah:out[m]? = some p:=by rw[M.out,<- ay.out];simp
     obtain⟨vp,aG,hI,_⟩:=u.out.ins m p ah;obtain⟨a9,c9,aF,aC⟩:=u.out.form;obtain⟨gb,aU,aW,_,cb,fz⟩:=aC m vp aG;obtain⟨rfl,rfl⟩:a4=a9/\c4=c9:=by
      injection aF with q1 q2 q3;exact⟨q1,q3⟩
     subst aU;have aS:=ag cb;obtain⟨aE,bo⟩:=My ab.out (List.mem_of_getElem? ah);have aO:=hZ aE;obtain⟨D,E,rfl⟩:=bz hI;have ac:Hid (SlV d (.slice D p.length E) p):=hI.slV;have bn:=am.out p (List.mem_of_getElem? ah);clear hI aG aC ah aF aE fz a3;have bs:IntKind.i64.wrap (m:Int)=(m:Int):=by rw[IntKind.wrap_i64];omega
     have bE:Below d.heap.size d (d.alloc (.cells #[] 37)):=bY _;have R0:Hid (Rws (d.alloc (.cells #[] 37)) d.heap.size (.slice (some ⟨d.heap.size,0,none⟩) 0 0) []):=sn d _ _ rfl bR;have S0:Hid (SlV (d.alloc (.cells #[] 37)) (.slice D p.length E) p):=ac.out.below bE bR;have bF:Below d.heap.size d ((d.alloc (.cells #[] 37)).alloc (.cells #[.string x.key,.string x.text,.string x.val] 37)):=bE.alloc (by simp) _;have R1:Hid (Rws ((d.alloc (.cells #[] 37)).alloc (.cells #[.string x.key,.string x.text,.string x.val] 37)) d.heap.size (.slice (some ⟨d.heap.size,0,none⟩) 0 0) []):=R0.out.below (bY _);have S1:Hid (SlV ((d.alloc (.cells #[] 37)).alloc (.cells #[.string x.key,.string x.text,.string x.val] 37)) (.slice D p.length E) p):=ac.out.below bF bR
     have X1:Hid (Rws ((d.alloc (.cells #[] 37)).alloc (.cells #[.string x.key,.string x.text,.string x.val] 37)) d.heap.size (.slice (some ⟨d.heap.size+1,0,none⟩) 1 1) [x]):=gg _ _ _ x (by simp) (by simp);have bG:Below d.heap.size d ((d.alloc (.cells #[.string x.key,.string x.text,.string x.val] 37)).alloc (.cells #[] 37)):=(bY _).alloc (by simp) _;have R2:Hid (Rws ((d.alloc (.cells #[.string x.key,.string x.text,.string x.val] 37)).alloc (.cells #[] 37)) d.heap.size (.slice (some ⟨d.heap.size+1,0,none⟩) 0 0) []):=sn _ _ _ (by simp) (by simp);have S2:Hid (SlV ((d.alloc (.cells #[.string x.key,.string x.text,.string x.val] 37)).alloc (.cells #[] 37)) (.slice D p.length E) p):=ac.out.below bG bR
     have X2:Hid (Rws ((d.alloc (.cells #[.string x.key,.string x.text,.string x.val] 37)).alloc (.cells #[] 37)) d.heap.size (.slice (some ⟨d.heap.size,0,none⟩) 1 1) [x]):=(gg d _ _ x rfl bR).below (bY _);go_upto_region 9 with fail
     go_cut [8,11] from 11 to 52 (fun v8 i wx=>i=.int .i64 (k:Int)/\Rws wx d.heap.size v8 (p++[x])/\Below d.heap.size d wx)
     case first =>
      go_region_law (first
       | (refine dz rfl (.tmp 28) (.tmp 33) rfl d.heap.size (.slice (some ⟨d.heap.size,0,none⟩) 0 0) (.slice D p.length E) [] p rfl rfl (kz R0.out rfl) (gh S0.out rfl) (by simp;omega) (by first|(simp;done)|(simp;omega)) ?_;intro v6 w6 G z;have t:Below d.heap.size d w6:=Below.grown (by repeat (first|with_reducible exact bE|with_reducible refine Below.drew ?_)) z (by first|(simp;done)|(simp;omega)) (fun g e=>by cases e;first|exact bR|exact Nat.le_succ _);have I:=X.out.below t;obtain⟨f0,f1,f2⟩:=I.cells;have aH:=I.lt;have aL:=t.size;clear z)
       | (refine dz rfl (.tmp 28) (.tmp 33) rfl d.heap.size (.slice (some ⟨d.heap.size,0,none⟩) 0 0) (.slice D p.length E) [] p rfl rfl (kz R1.out rfl) (gh S1.out rfl) (by simp;omega) (by first|(simp;done)|(simp;omega)) ?_;intro v6 w6 G z;have t:Below d.heap.size d w6:=Below.grown (by repeat (first|with_reducible exact bF|with_reducible refine Below.drew ?_)) z (by first|(simp;done)|(simp;omega)) (fun g e=>by cases e;first|exact bR|exact Nat.le_succ _);have ax:=Td z X1.out rfl (by simp[Value.ownBlock]);have I:=X.out.below t;obtain⟨f0,f1,f2⟩:=I.cells;have aH:=I.lt;have aL:=t.size;clear z)
       | (refine dz rfl (.tmp 28) (.tmp 33) rfl d.heap.size (.slice (some ⟨d.heap.size+1,0,none⟩) 0 0) (.slice D p.length E) [] p rfl rfl (kz R2.out rfl) (gh S2.out rfl) (by simp;omega) (by first|(simp;done)|(simp;omega)) ?_;intro v6 w6 G z;have t:Below d.heap.size d w6:=Below.grown (by repeat (first|with_reducible exact bG|with_reducible refine Below.drew ?_)) z (by first|(simp;done)|(simp;omega)) (fun g e=>by cases e;first|exact bR|exact Nat.le_succ _);have ax:=Td z X2.out rfl (by simp[Value.ownBlock]);have I:=X.out.below t;obtain⟨f0,f1,f2⟩:=I.cells;have aH:=I.lt;have aL:=t.size;clear z)
       | (refine dz rfl (.tmp 34) (.tmp 36) rfl d.heap.size v6 (.slice (some ⟨w6.heap.size,0,none⟩) 1 1) ([]++p) [x] rfl rfl (kz (G.below (bY (.cells #[.string x.key,.string x.text,.string x.val] 37))) rfl) (gh (gg w6 w6.heap.size w6.heap.size x rfl bR).slV rfl) (by simp;omega) (by first|omega|(simp;omega)) ?_;intro v7 w7 i7 F;have b7:Below d.heap.size d w7:=Below.grown (by repeat (first|with_reducible exact (t.alloc t.size _)|with_reducible refine Below.drew ?_)) F (by first|omega|(simp;omega)) (fun g e=>(World.ownsRow.lt G g e).1);clear F)
       | (refine dz rfl (.tmp 34) (.tmp 36) rfl d.heap.size v6 (.slice (some ⟨d.heap.size+1,0,none⟩) 1 1) ([]++p) [x] rfl rfl (kz G rfl) (gh ax rfl) (by simp;omega) (by first|omega|(simp;omega)) ?_;intro v7 w7 i7 F;have b7:Below d.heap.size d w7:=Below.grown (by repeat (first|with_reducible exact t|with_reducible refine Below.drew ?_)) F (by first|omega|(simp;omega)) (fun g e=>(World.ownsRow.lt G g e).1);clear F)
       | (refine dz rfl (.tmp 34) (.tmp 36) rfl d.heap.size v6 (.slice (some ⟨d.heap.size,0,none⟩) 1 1) ([]++p) [x] rfl rfl (kz G rfl) (gh ax rfl) (by simp;omega) (by first|omega|(simp;omega)) ?_;intro v7 w7 i7 F;have b7:Below d.heap.size d w7:=Below.grown (by repeat (first|with_reducible exact t|with_reducible refine Below.drew ?_)) F (by first|omega|(simp;omega)) (fun g e=>(World.ownsRow.lt G g e).1);clear F))
      all_goals
       have hK:Rws w7 d.heap.size v7 (p++[x]):=by simpa using i7
       clear i7;go_wp2_with fail;go_meet
       case rel=>exact⟨rfl,hK,b7⟩
     case rest =>
      obtain⟨rfl,r8,b8⟩:=hcut;obtain⟨q,C⟩:∃ q,Hid (q=p++[x]):=⟨_,rfl⟩
      rw[<- C.out]at r8;have b0:q.length=p.length+1:=by rw[C.out];simp
      have az:Hid (RwB q):=by
       rw[C.out];refine⟨by simp;omega,fun y f=>?_⟩;rcases List.mem_append.1 f with f|f
       .exact ao.out.2 y (aO.out y f)
       .simp at f;subst f;exact⟨z0,z1,z2⟩
      obtain⟨a8,c8,b5⟩:=bz r8;subst b5;have ad:Calls prog 81 #[.slice a8 q.length c8] wc fun e w'=>e=.returned (.string (byT (et q)))/\Below wc.heap.size wc w':=rq (ew r8) az.out
      have a6:Hid ((byT (et q)).size=lnP q):=qe _;generalize byT (et q)=s2 at *;have bq:s2.size<=196098:=by rw[a6.out];exact Cl az.out
      have b1:q.length<=61:=by omega
      have an:=hZ r8;have O:=hZ b8;clear r8 b8 bE R0 S0 bF R1 S1 X1 bG R2 S2 X2 ac ao b0;by_cases a7:s2.size<=300
      .have aa:(s2.size:Int)<=300:=by omega
       have U:Hid (scF (H++[q]) (l.drop (k+1))=R):=by
        show _=_
        rw[<- L.out,P.out,M.out,xx (by rw[<- V.out];omega) (by rw[<- C.out,<- a6.out];exact a7),C.out]
       clear L P;go_wp2_with fail;refine ad.mono ?_;rintro e w9 ⟨rfl,S⟩;have s:=hZ (O.out.trans (S.mono O.out.size));have aA:=hZ (an.out.below S);have aR:w9.cell? ⟨gb,m,none⟩=some (.slice D p.length E):=(s.out.cell aS).trans cb;have aV:=ag aR;have aT:w9.frozen? ⟨gb,m,none⟩=false:=World.ownsRow.frozenAt (u.out.below s.out).row m;have aM:Hid (Below w.heap.size w (w9.setCell ⟨gb,m,none⟩ (.slice a8 q.length c8))):=(n.out.trans (s.out.mono n.out.size)).setCell aW _;have aP:Hid (out.set m q=H++[q]):=by show _=_;rw[M.out,<- ay.out];exact ah0 _ _ _
       have aw:=u.out.store n.out.size s.out aA.out aZ;rw[aP.out]at aw;have aN:Hid _:=aw;clear aw ad S s aA O an cb u n;go_wp2;refine⟨⟨k+1,_,H++[q],_,by omega,by go_num,aN.out,by rw[C.out];exact Z3 (by rw[<- M.out];exact ab.out) HX.out,fun y f=>?_,U.out,aM.out⟩,by simp[intOf];omega⟩;rcases List.mem_append.1 f with f|f
       .exact am.out y (by rw[M.out];exact List.mem_append_left _ f)
       .simp at f;rw[f,C.out];simp
      .have aa:¬ (s2.size:Int)<=300:=by omega
       have U:Hid (scF (out++[[x]]) (l.drop (k+1))=R):=by
        show _=_
        rw[<- L.out,P.out,M.out,zz (by rw[<- V.out];omega) (by rw[<- C.out,<- a6.out];exact a7)]
       clear L P;go_wp2_with fail;refine ad.mono ?_;rintro e w9 ⟨rfl,S⟩;have ae:Below d.heap.size d w9:=O.out.trans (S.mono O.out.size);have s:=hZ (n.out.trans (ae.mono n.out.size));have ak:Hid (bj w9 w.heap.size hi _ out vs):=u.out.below ae;have x9:=X.out.below ae;obtain⟨f0,f1,f2⟩:=x9.cells;have bt:=x9.lt;have N:Below w9.heap.size w9 ((w9.alloc (.cells #[.string x.key,.string x.text,.string x.val] 37)).alloc (.cells #[.slice (some ⟨w9.heap.size,0,none⟩) 1 1] 32)):=(bY _).alloc (by simp) _;have K:=(ak.out.below N).row;have r3:=gg w9 w9.heap.size w9.heap.size x rfl bR;have W:Hid (Rws _ w9.heap.size (.slice (some ⟨w9.heap.size,0,none⟩) 1 1) [x]):=r3.below (bY (.cells #[.slice (some ⟨w9.heap.size,0,none⟩) 1 1] 32));have b3:=s.out.size
       have A:Hid _:=N;clear r3 N ad S ae x9 O an cb u n X d0 d1 d2;go_wp2_with (at_builtin;refine wpList_append_lies _ rfl _ _ 132 rfl w.heap.size 32 i1 (.slice none 0 0) 1 24 underlying132 hi1 aI aJ aK rfl (by decide) _ _ _ rfl K ⟨_,0,none⟩ 1 1 [.slice (some ⟨w9.heap.size,0,none⟩) 1 1] rfl rfl (C5 _ _ _ _ (by simp)) (fun x r=>by simp at r;subst r;rfl) (by omega) (by unfold maxLen;omega) (by omega) (by simp;omega) _ rfl ?_)
       intro g5 c5 u5 Y J au av;have N5:=ak.out.push s.out.size A.out W.out J Y;have aj:Hid (Below w.heap.size w u5):=Below.grown (s.out.trans (A.out.mono s.out.size)) J (Nat.le_trans s.out.size A.out.size) (fun i hj=>(World.ownsRow.lt K i hj).1);have al:Hid _:=N5;clear N5 W J Y K ak s A;go_wp2;refine⟨⟨k+1,_,out++[[x]],_,by omega,by go_num,al.out,Jy ab.out HX.out,fun y f=>?_,U.out,aj.out⟩,by simp[intOf];omega⟩;rcases List.mem_append.1 f with f|f
       .exact am.out y f
       .simp at f;rw[f];simp
  .have aX:k=l.length:=by omega
   subst aX;have aq:Hid (R=some out):=by show _=_;rw[<- hE,List.drop_length];rfl
   have Z:Hid (bj wr w.heap.size hi _ out vs):=hN;have HB:=hZ B;clear hN af ai hE fm B;go_wp2;go_ret2;rw[aq.out,Tz];exact⟨_,rfl,fun gs h=>by obtain rfl:=Option.some.inj h;exact⟨_,Z.out.high Z.out.top bR⟩,fun h=>(by cases h),HB.out⟩
theorem Ip {l:List Rw}(a:dm l=true):ur l=vg (scF [] l):=by unfold ur;rw[if_pos a,am2]
theorem a81 {o:Option (List (List Rw))} {gs:List (List Rw)}(h:vg o=some gs):o=some gs:=by
 cases o with
 | none=>cases h
 | some r =>
  have a:(if r.length<=40 then some r else none)=some gs:=h;split at a
  .exact a
  .cases a
def pgT (g:List Rw):ByteArray:=byT (et g)
def pu (l:List Rw):Option (List ByteArray):=match ur l with
 | none=>none
 | some gs=>some (gs.map pbT)
theorem zd {l:List Rw}(h:ur l=none):pu l=none:=by unfold pu;rw[h]
theorem ze {l:List Rw} {gs:List (List Rw)}(h:ur l=some gs):pu l=some (gs.map pbT):=by unfold pu;rw[h]
theorem Ga (l:List Rw):∀ (out r:List (List Rw)),scF out l=some r->r.flatten=out.flatten++l:=by
 induction l with
 | nil =>
  intro out r h;have c:some out=some r:=h
  cases c
  simp
 | cons x l ih =>
  intro out r h;by_cases a:300<lnP [x]
  .rw[xw a]at h;cases h
  .cases hg:out.getLast? with
   | none =>
    obtain rfl:out=[]:=List.getLast?_eq_none_iff.1 hg;rw[yl a]at h;rw[ih _ _ h];simp
   | some p =>
    obtain⟨o,rfl⟩:∃ o,out=o++[p]:=List.getLast?_eq_some_iff.1 hg
    by_cases b:lnP (p++[x])<=300
    .rw[xx a b]at h
     rw[ih _ _ h];simp
    .rw[zz a b]at h
     rw[ih _ _ h];simp
theorem aq4 {l:List Rw} {r:List (List Rw)}(a:dm l=true) (h:scF [] l=some r):(∀ g ∈ r,RwB g):=by
 have d:=Ga l [] r h;intro g e;have c:=ud a;have f:=mz a;obtain⟨b,i⟩:=My (out:=r) (l:=l) (k:=l.length) (by rw[d];simp) e;exact⟨by omega,fun x hx=>c.2 x (b x hx)⟩
theorem Jg:∀ (ss:List ByteArray) (acc gs:List (List Rw)),bkF acc ss=some gs->gs=acc++ss.map an/\∀ s ∈ ss,da s=0
 | [],acc,gs,h=>by
  have c:some acc=some gs:=h
  cases c
  simp
 | s::ss,acc,gs,h=>by
  unfold bkF at h;by_cases a:ft acc s=true
  .rw[if_pos a]at h
   obtain⟨d,e⟩:=Jg ss _ gs h;refine⟨by rw[d];simp,fun t b=>?_⟩;rcases List.mem_cons.1 b with rfl|b
   .unfold ft at a
    rw[Bool.and_eq_true,decide_eq_true_eq]at a;exact a.1
   .exact e t b
  .rw[if_neg a]at h
   cases h
theorem Q8 {ss:List ByteArray} {gs:List (List Rw)}(h:ca ss=some gs):gs=ss.map an/\∀ s ∈ ss,da s=0:=by
 unfold ca at h;split at h
 .have:=Jg ss [] gs h
  simpa using this
 .cases h
theorem Yh {l:List Rw} {gs:List (List Rw)}(h:ur l=some gs):dm l=true/\gs.flatten=l:=by
 by_cases a:dm l=true
 .refine⟨a,?_⟩
  rw[Ip a]at h
  cases hs:scF [] l with
  | none=>rw[hs]at h;cases h
  | some r =>
   rw[hs]at h;have b:=Ga l [] r hs;unfold vg at h;simp only at h;split at h
   .cases h
    simpa using b
   .cases h
 .unfold ur at h
  rw[if_neg a]at h
  cases h
theorem Ay {l:List Rw} {p:List ByteArray}(h:pu l=some p):∃ gs,ca p=some gs/\gs.flatten=l/\gs=p.map an/\(∀ s ∈ p,da s=0)/\p.length<=40/\∀ s ∈ p,s.size<=300:=by
 cases hc:ur l with
 | none=>rw[zd hc]at h;cases h
 | some gs =>
  rw[ze hc]at h
  cases h
  obtain⟨j,d⟩:=Yh hc;obtain⟨b,a⟩:=Sm hc;have k:gs.map pbT=gs.map pgB:=List.map_congr_left fun g hgm=>av8 (a g hgm)
  have i:=a85 j d a;have c:ca (gs.map pbT)=some gs:=by
   rw[k,Tv i,if_pos ⟨b,fun g hgm=>(ad4 (a g hgm)).1⟩]
  obtain⟨e,f⟩:=Q8 c;refine⟨gs,c,d,e,f,by simpa using b,fun s hs=>?_⟩;obtain⟨g,_,rfl⟩:=List.mem_map.1 hs;exact ae3 g
theorem Ru {w:World} {a:Option Addr} {l:List Rw} {c:Nat}(f:dd w a l) (m:dm l=true) (hl:l.length<=c) (hc:c<=9223372036854775807) :
  Calls prog 36 #[.slice a l.length c] w fun e w'=>∃ v,e=.returned (.tuple #[v,.bool (vg (scF [] l)).isSome])/\(∀ gs,scF [] l=some gs->ak w' w.heap.size v (gs.map pgT))/\Below w.heap.size w w':=by
 have K:=Pe f m hl hc;obtain⟨i0,hi0,ai,aj,al⟩:=info_parts Kb;obtain⟨ok,T⟩:∃ ok,Hid ((vg (scF [] l)).isSome=ok):=⟨_,rfl⟩
 rw[T.out]at K ⊢;obtain⟨gs,t⟩:∃ gs,Hid ((scF [] l).getD []=gs):=⟨_,rfl⟩
 have a6:Hid (∀ g ∈ gs,RwB g):=by
  rw[<- t.out]
  cases h:scF [] l with
  | none=>exact fun g m=>by simp at m
  | some r=>exact aq4 m h
 have a5:Hid (gs.length<=60):=by
  rw[<- t.out]
  cases h:scF [] l with
  | none=>exact Nat.zero_le _
  | some r =>
   have hf:=Ga l [] r h;have s:∀ (H:List Rw) (out q:List (List Rw)),(∀ p ∈ out,0<p.length)->scF out H=some q->∀ p ∈ q,0<p.length:=by
    intro H;induction H with
    | nil =>
     intro out q G h;have h':some out=some q:=h
     cases h'
     exact G
    | cons x H ih =>
     intro out q G h;by_cases E:300<lnP [x]
     .rw[xw E]at h;cases h
     .cases hgl:out.getLast? with
      | none =>
       obtain rfl:out=[]:=List.getLast?_eq_none_iff.1 hgl;rw[yl E]at h;exact ih _ _ (fun p s=>by simp at s;subst s;simp) h
      | some p =>
       obtain⟨o,rfl⟩:∃ o,out=o++[p]:=List.getLast?_eq_some_iff.1 hgl
       by_cases F:lnP (p++[x])<=300
       .rw[xx E F]at h
        refine ih _ _ (fun y d=>?_) h;rcases List.mem_append.1 d with d|d
        .exact G y (List.mem_append_left _ d)
        .simp at d;rw[d];simp
       .rw[zz E F]at h
        refine ih _ _ (fun y d=>?_) h;rcases List.mem_append.1 d with d|d
        .exact G y d
        .simp at d;rw[d];simp
   have aa:=mz m;have N:=Mx (out:=r) (l:=l) (k:=l.length) (by rw[hf];simp) (s l [] r (fun p s=>by simp at s) h);show r.length<=60
   omega
 have S:Hid (∀ (u:World) (O:Nat) (v:Value),(∀ gs,scF [] l=some gs->∃ vs,bj u O u.heap.size v gs vs)->(scF [] l=none->v=.slice none 0 0)->BkV u v gs):=fun u O v F h2=>by
  rw[<- t.out]
  cases h:scF [] l with
  | none=>rw[h2 h];exact (bj.nil u O).bk
  | some r=>obtain⟨vs,q⟩:=F r h;exact q.bk
 have a0:Hid (∀ gs',scF [] l=some gs'->gs'=gs):=fun gs' h=>by rw[<- t.out,h];rfl
 clear f m t T;generalize scF [] l=sc at *;have aa:=a5.out;go_enter func36,ntmps36;go_wp2_with fail;refine K.mono ?_;rintro e n ⟨v1,rfl,P,Q,Z⟩;have V1:=S.out n _ v1 P Q;obtain⟨a1,c1,rfl,_⟩:=V1;have HV:Hid (BkV n (.slice a1 gs.length c1) gs):=S.out n _ _ P Q;have I:=hZ Z;clear K P Q Z;go_wp2_with fail;go_loopw [6,16] (fun v i wr=>ax9 n gs pgT (fun _=>true) v i wr) (fun _ i _=>gs.length-(intOf i).toNat)
 case atStart=>exact⟨0,Nat.zero_le _,rfl,World.ownsRow_nil _ _ _ _,fun j g hj _=>rfl,bX⟩
 case round =>
  obtain⟨k,hk,rfl,f,_,A⟩:=hrel;by_cases ad:k<gs.length
  .obtain⟨g,m⟩:∃ g,gs[k]? = some g:=⟨_,List.getElem?_eq_getElem ad⟩
   obtain⟨a',c',af,N⟩:=HV.out.below A bR;injection af with q1 _ q3;subst q1;subst q3;obtain⟨b,o,ax,cx,rfl,d1,W⟩:=N k g m;have am:=ag d1;have an:(k:Int)<(gs.length:Int):=by omega
   have Y:Calls prog 81 #[.slice ax g.length cx] wr fun e w'=>e=.returned (.string (pgT g))/\Below wr.heap.size wr w':=rq (cap:=cx) W (a6.out g (List.mem_of_getElem? m))
   have X:Hid ((gs.take (k+1)).map pgT=(gs.take k).map pgT++[pgT g]):=Lc pgT m;have a2:((gs.take k).map pgT).length<=60:=by simp;omega
   obtain⟨R,a8⟩:∃ R,Hid ((gs.take k).map pgT=R):=⟨_,rfl⟩
   rw[a8.out]at X a2 f;obtain⟨a4,c4,ah⟩:=ip f;subst ah;have D:=hZ f;have z:=hZ A;clear N W m f A;generalize pgT g=pg at *;go_wp2_with fail;refine Y.mono ?_;rintro e w2 ⟨rfl,L⟩;have B:=hZ (z.out.trans (L.mono z.out.size));have M:=(Below.refl w2.heap.size w2).alloc bR (.cells #[.string pg] 9);have C:=(D.out.below L).below M;have J:Hid (Below n.heap.size n _):=B.out.trans (M.mono B.out.size);have ao:=B.out.size;unfold ak at C;clear Y L D z M
   go_wp2_with (at_builtin;refine wpList_append_lies _ rfl _ _ 23 rfl n.heap.size 9 i0 _ 1 16 underlying23 hi0 ai aj al rfl (by decide) _ _ _ rfl C ⟨_,0,none⟩ 1 1 [.string pg] rfl rfl (cell_one_new _ _ _) (fun x hx=>by simp at hx;subst hx;rfl) (by omega) (by unfold maxLen;omega) (by omega) (by simp;omega) _ rfl ?_)
   intro g5 c5 u5 V U ab ae;have a7:Hid (ak u5 n.heap.size (.slice (some ⟨g5,0,none⟩) (R.length+1) c5) ((gs.take (k+1)).map pgT)):=by rw[X.out];exact ak.snoc V
   have a3:Hid (Below n.heap.size n u5):=Below.grown J.out U J.out.size (fun i hj=>(World.ownsRow.lt C i hj).1);clear V U C B J;go_wp2;exact⟨⟨k+1,by omega,by go_num,a7.out,fun j g hj _=>rfl,a3.out⟩,by simp[intOf];omega⟩
  .have ac:k=gs.length:=by omega
   subst ac;rw[List.take_length]at f;have D:Hid (ak wr w.heap.size u6 (gs.map pgT)):=by
    refine⟨f.1,?_⟩;rcases f.2 with h|⟨g,cap,a9,q1,q2,q3⟩
    .exact .inl h
    .exact .inr ⟨g,cap,a9,q1,Nat.le_trans I.out.size q2,q3⟩
   have z:=hZ (I.out.trans (A.mono I.out.size));clear f A;go_wp2;go_ret2;exact⟨_,rfl,fun gs' h=>by rw[a0.out gs' h];exact D.out,z.out⟩
end Go.Proofs.YtjbmgghehdemdaaGreatDoor
