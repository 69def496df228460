/- ITake2 -/
import Derived.Test.YtjbmgghehdemdaaGreatDoorMR25
import Derived.Deep.RegionWith
import Derived.Deep.Upon
import Derived.Test.YtjbmgghehdemdaaGreatDoorMR11
import Derived.Test.YtjbmgghehdemdaaGreatDoorMR21
namespace Go.Proofs.YtjbmgghehdemdaaGreatDoor
set_option maxRecDepth 100000
set_option maxHeartbeats 16000000
open _root_.Go.Proofs.Tryz
open Go.RowKit
def md (w:World) (g:Nat) (v:Value) (l:List Int):Prop :=
 (∃ a c,v=.slice a 0 c/\l=[])\/∃ f c cs,v=.slice (some ⟨g,f,none⟩) l.length c/\l.length<=c/\c<=maxLen/\w.heap[g]? = some (.cells cs 3)/\∀ j x,l[j]? = some x->w.cell? ⟨g,f+j,none⟩=some (.int .i64 x)
def ou:Value->Nat
 | .slice _ n _=>n
 | _=>0
theorem md.len {w:World} {g:Nat} {v:Value} {l:List Int}(h:md w g v l):ou v=l.length:=by
 rcases h with ⟨a,c,rfl,rfl⟩|⟨f,c,b,rfl,_⟩ <;> rfl
theorem md.below {w w':World} {g:Nat} {v:Value} {l:List Int}(h:md w g v l) (b:Below w.heap.size w w'):md w' g v l:=by
 rcases h with h|⟨f,c,e,i,k,m,a,n⟩
 .exact .inl h
 .have d:=(Array.getElem?_eq_some_iff.1 a).1
  exact .inr ⟨f,c,e,i,k,m,(b.block g d).trans a,fun j x hx=>(b.cell d).trans (n j x hx)⟩
theorem md.kept {w w':World} {g:Nat} {v:Value} {l:List Int} {row:Option Nat}(h:md w g v l) (e:w.grownBy w' row) (b:some g≠row):md w' g v l:=by
 rcases h with h|⟨f,c,i,k,m,n,d,o⟩
 .exact .inl h
 .have a:=(Array.getElem?_eq_some_iff.1 d).1
  exact .inr ⟨f,c,i,k,m,n,(e.block g a b).trans d,fun j x hx=>(World.cell?_of_block (e.block g a b)).trans (o j x hx)⟩
theorem A0 {T:TypeId}(g:Nat):∀ (vs:List Value) (f:Nat) (w:World) (cs:Array Value),w.heap[g]? = some (.cells cs T)->∃ cs',(w.setCells g f vs).heap[g]? = some (.cells cs' T)
 | [],_,_,cs,h=>⟨cs,h⟩
 | v::vs,f,w,cs,h=>by
  rw[World.setCells];exact A0 g vs (f+1) _ _ (heap_setCell_same w g f cs T v h)
theorem Bp (g:Nat):∀ (vs:List Value) (f:Nat) (w:World),(w.setCells g f vs).heap.size=w.heap.size
 | [],_,_=>rfl
 | v::vs,f,w=>by
  rw[World.setCells,Bp g vs (f+1)];simp[World.setCell]
theorem Bq (g:Nat):∀ (vs:List Value) (f:Nat) (w:World),(w.setCells g f vs).tape=w.tape
 | [],_,_=>rfl
 | v::vs,f,w=>by
  rw[World.setCells,Bq g vs (f+1)];rfl
theorem so (w:World) (q g f:Nat) (vs:List Value):w.grownBy ((w.drewN q).setCells g f vs) (some g) :=
 ⟨World.os_setCells _ g f vs,Bq g vs f _,World.output_setCells _ g f vs,by rw[Bp];exact bR,fun k hk hne=>World.heap_setCells_other _ g f vs hk (fun e=>hne (by rw[e]))⟩
theorem ad1 {w:World} {g f c q k:Nat} {cs:Array Value} {l:List Int}(r:k<l.length) (h2:l.length<=c) (o:c<=maxLen) (b:w.heap[g]? = some (.cells cs 3)) (p:∀ j x,l[j]? = some x->w.cell? ⟨g,f+j,none⟩=some (.int .i64 x)) :
  md ((w.drewN q).setCells g f ((l.eraseIdx k++[0]).map (Value.int .i64))) g (.slice (some ⟨g,f,none⟩) (l.eraseIdx k).length c) (l.eraseIdx k):=by
 have e:(w.drewN q).heap[g]? = some (.cells cs 3):=b;obtain⟨d,h⟩:=A0 g ((l.eraseIdx k++[0]).map (Value.int .i64)) f (w.drewN q) cs e;have m:=List.length_eraseIdx_of_lt r;refine .inr ⟨f,c,d,rfl,by omega,o,h,fun j x hx=>?_⟩;have n:(w.drewN q).there g f ((l.eraseIdx k++[0]).map (Value.int .i64)).length:=fun j a=>by
  have i:j<l.length:=by simp[m]at a;omega
  refine⟨?_,by simp[World.frozen?,b]⟩;have:=p j l[j] (List.getElem?_eq_getElem i);show (w.cell? ⟨g,f+j,none⟩).isSome=true
  rw[this];rfl
 have a:j<(l.eraseIdx k).length:=(List.getElem?_eq_some_iff.1 hx).1;refine World.rangeAt_setCells_same _ g f _ n j (.int .i64 x) ?_;rw[List.getElem?_map,List.getElem?_append_left a,hx];rfl
theorem U1 (w:World) (n:Nat) (x:Value) (t:TypeId) (hn:n=w.heap.size):∀ j u,[x][j]? = some u->(w.alloc (.cells #[x] t)).cell? ((⟨n,0,none⟩:Addr).add j)=some u:=by
 subst hn;intro j u a;match j,a with
 | 0,a=>simp at a;subst a;simp[Addr.add]
def Tq (w w0:World) (es:List Ent) (g N:Nat) (goal:List Int × List Int) (v7 v8:Value) (wr:World):Prop :=
 ∃ run rest,1<=run.length/\run.length+rest.length=N/\ab wr w.heap.size v7 run/\md wr g v8 rest/\mf es run rest=goal/\Below w0.heap.size w0 wr/\w.grownBy wr (some g)
theorem a01 {w:World} {g f c n:Nat} {cs:Array Value} {l:List Int}(hn:n<=l.length) (h2:l.length<=c) (d:c<=maxLen) (a:w.heap[g]? = some (.cells cs 3)) (b:∀ j x,l[j]? = some x->w.cell? ⟨g,f+j,none⟩=some (.int .i64 x)) :
  md w g (.slice (some ⟨g,f+n,none⟩) (l.length-n) (c-n)) (l.drop n):=by
 refine .inr ⟨f+n,c-n,cs,by rw[List.length_drop],by rw[List.length_drop];omega,by omega,a,fun j x hx=>?_⟩;rw[List.getElem?_drop]at hx;rw[Nat.add_assoc];exact b (n+j) x hx
theorem Ho {w:World} {B:Nat} {v:Value} {l:List Int}(h:ab w B v l) (h1:1<=l.length):∃ g c,v=.slice (some ⟨g,0,none⟩) l.length c/\B<=g/\g<w.heap.size/\∀ j x,l[j]? = some x->w.cell? ⟨g,0+j,none⟩=some (.int .i64 x):=by
 rcases h.form with ⟨rfl,rfl⟩|⟨g,a,rfl,_,_⟩
 .simp at h1
 .refine⟨g,a,rfl,(World.ownsRow.lt h g rfl).1,(World.ownsRow.lt h g rfl).2,fun j x hx=>?_⟩
  have b:=(List.getElem?_eq_some_iff.1 hx).1;rw[Nat.zero_add,h.cell j b,hx];rfl
theorem O1 {w d:World} {B m g:Nat} {b h j:Value} {es:List Ent} {run rest:List Int}(s:ac d B b es) (hn:es.length<=1048576) (t:∀ e ∈ es,e.runes.length<=1048576) (ht:dr d) (i:Below d.heap.size d w)
  (u:ab w m h run) (v:md w g j rest) (h1:1<=run.length) (z:run.length+rest.length<=3000) :
  Calls prog 201 #[b,h,j] w fun e w'=>e=.returned (Bx (kn es run rest))/\Below w.heap.size w w':=by
 rcases v with ⟨a,c,rfl,rfl⟩|⟨f,c,x,rfl,p,y,q,r⟩
 .exact O2 w b h a c es run
 .obtain⟨o,n,rfl,_,l,k⟩:=Ho u h1
  exact O3 w B o 0 n g f c b es run rest (s.below i) hn t (ht.below i) l (Array.getElem?_eq_some_iff.1 q).1 h1 (by omega) (by omega) p k r
theorem Rz (w d:World) (B g f c:Nat) (cs:Array Value) (Q:Value) (es:List Ent) (l:List Int) (Z:Below d.heap.size d w) (N:ac d B Q es) (hn:es.length<=1048576) (hr:∀ e ∈ es,e.runes.length<=1048576) (ht:dr d)
  (an:d.heap.size<=g) (h1:1<=l.length) (hl:l.length<=3000) (h2:l.length<=c) (h3:c<=maxLen) (h4:w.heap[g]? = some (.cells cs 3)) (h5:∀ j x,l[j]? = some x->w.cell? ⟨g,f+j,none⟩=some (.int .i64 x)) :
  Calls prog 179 #[Q,.slice (some ⟨g,f,none⟩) l.length c] w fun e w'=>∃ vr vq,e=.returned (.tuple #[vr,vq])/\ab w' w.heap.size vr (fk es l).1/\md w' g vq (fk es l).2/\Below d.heap.size d w'/\w.grownBy w' (some g):=by
 obtain⟨i0,hi,aF,aD,aE⟩:=info_parts dv;have G:g<w.heap.size:=(Array.getElem?_eq_some_iff.1 h4).1;have RF:=a29 w B g f c Q es l (N.below Z) hn hr G h1 hl h2 h5;obtain⟨aG,av,aH⟩:=J6 (es:=es) h1;obtain⟨r,HG⟩:∃ r,Hid (fk es l=r):=⟨_,rfl⟩
 have v:Hid (mf es (l.take (mw es l)) (l.drop (mw es l))=r):=HG.out;rw[HG.out];clear HG;generalize mw es l=n at *;obtain⟨va,vn,vc,aC⟩:∃ a n c,Q=.slice a n c:=by
  rcases N.form with ⟨rfl,_⟩|⟨_,_,rfl,_,_,_,_⟩
  .exact⟨_,_,_,rfl⟩
  .exact⟨_,_,_,rfl⟩
 subst aC;have HE:Hid (ac _ _ _ _):=N;have HT:Hid (dr _):=ht;have R:Hid _:=Z;have H5:Hid (∀ j x,l[j]? = some x->w.cell? ⟨g,f+j,none⟩=some (.int .i64 x)):=h5;have H4:Hid (w.heap[g]? = some (.cells cs 3)):=h4;have aK:n<=c:=by omega
 clear N ht Z h5 h4;go_enter func179,ntmps179;go_wp2_with fail;refine RF.mono ?_;rintro e w1 ⟨rfl,A⟩;clear RF;have D:=fun (u:World) (O:Below w1.heap.size w1 u)=>a84 u g f c (l.take n) (by rw[List.length_take];omega) (fun j x i=>by
  have az:j<n:=by
   have:=(List.getElem?_eq_some_iff.1 i).1;rw[List.length_take]at this;omega
  rw[List.getElem?_take_of_lt az]at i;rw[O.cell (Nat.lt_of_lt_of_le G A.size),A.cell G];exact H5.out j x i)
 rw[show (l.take n).length=n by rw[List.length_take];omega]at D;go_upto_region 2 with fail
 go_cut [7,8] from 14 to 20 (fun v7 v8 wx=>ab wx w1.heap.size v7 (l.take n)/\v8=.slice (if c=n then some ⟨g,f,none⟩ else some ⟨g,f+n,none⟩) (l.length-n) (c-n)/\Below w1.heap.size w1 wx)
 case first =>
  by_cases K:c=n
  .subst K
   go_region_with (go_at_call 200;refine (D _ (by repeat (first|exact bX|refine Below.drew ?_))).mono ?_;rintro e u6 ⟨v6,rfl,M,C⟩)
   all_goals
    have L:ab u6 w1.heap.size v6 (l.take c)/\Below w1.heap.size w1 u6:=⟨M,by first|exact C|exact (bX.drew).trans C⟩;clear M C D;go_wp2_with fail;go_meet
    case rel=>exact⟨L.1,by simp;omega,L.2⟩
  .have ax:(c == n)=false:=by simpa using K
   go_region_with (go_at_call 200;refine (D _ (by repeat (first|exact bX|refine Below.drew ?_))).mono ?_;rintro e u6 ⟨v6,rfl,M,C⟩)
   all_goals
    have L:ab u6 w1.heap.size v6 (l.take n)/\Below w1.heap.size w1 u6:=⟨M,by first|exact C|exact (bX.drew).trans C⟩;clear M C D;go_wp2_with fail;go_meet
    case rel=>exact⟨L.1,by rw[if_neg K],L.2⟩
 case rest =>
  obtain⟨i7,rfl,bc⟩:=hcut;clear D;have T:Below d.heap.size d w1:=R.out.trans (A.mono R.out.size);have t:Below w.heap.size w wc:=A.trans (bc.mono A.size);have ai:Below d.heap.size d wc:=T.trans (bc.mono T.size);have a7:wc.heap[g]? = some (.cells cs 3):=(t.block g G).trans H4.out;have a8:∀ j x,l[j]? = some x->wc.cell? ⟨g,f+j,none⟩=some (.int .i64 x):=fun j x i=>(t.cell G).trans (H5.out j x i)
  have hM:md wc g (.slice (if c=n then some ⟨g,f,none⟩ else some ⟨g,f+n,none⟩) (l.length-n) (c-n)) (l.drop n):=by
   by_cases K:c=n
   .refine .inl ⟨if c=n then some ⟨g,f,none⟩ else some ⟨g,f+n,none⟩,c-n,?_,List.drop_eq_nil_of_le (by omega)⟩
    rw[show l.length-n=0 by omega]
   .rw[if_neg K]
    exact a01 av h2 h3 a7 a8
  have aq:Tq w d es g l.length r u7 (.slice (if c=n then some ⟨g,f,none⟩ else some ⟨g,f+n,none⟩) (l.length-n) (c-n)) wc :=
   ⟨l.take n,l.drop n,by rw[List.length_take];omega,by rw[List.length_take,List.length_drop];omega,fe i7 A.size,hM,v.out,ai,⟨t.os,t.tape,t.output,t.size,fun k hk _=>t.block k hk⟩⟩
  have af:Hid (Tq _ _ _ _ _ _ _ _ _):=aq;clear aq hM a7 a8 ai t T i7 bc A v H4 H5 R;generalize (Value.slice (if c=n then some ⟨g,f,none⟩ else some ⟨g,f+n,none⟩) (l.length-n) (c-n))=v8 at *;go_wp2_with fail;go_loopw [7,8] (fun v7 v8 wr=>Tq w d es g l.length r v7 v8 wr) (fun _ v8 _=>ou v8)
  case atStart=>exact af.out
  case round =>
   clear af;obtain⟨run,rest,aB,aL,j7,P,s,jb,jg⟩:=hrel;have m:=O1 HE.out hn hr HT.out jb j7 P aB (by omega);have aJ:=P.len;have v:Hid (mf es run rest=r):=s;have J:Hid _:=jb;have S:Hid (World.grownBy _ _ _):=jg;have H7:Hid (ab _ _ _ _):=j7;have H8:Hid (md _ _ _ _):=P;clear s jb jg j7 P;rcases Aw es run rest with z|⟨k,E,z⟩
   .rw[z]at m
    have HF:Hid (r=(run,rest)):=by show _=_;rw[<- v.out];exact K9 z
    clear v z;unfold Bx at m;simp only[show (-1:Int)<0 from by decide,if_true,show decide ((0:Int)<=-1)=false from rfl]at m;go_wp2_with fail;refine m.mono ?_;rintro e w2 ⟨rfl,b⟩;clear m;go_wp2;go_ret2;rw[HF.out];exact⟨_,_,rfl,H7.out.below b,H8.out.below b,J.out.trans (b.mono J.out.size),S.out.trans ⟨b.os,b.tape,b.output,b.size,fun k hk _=>b.block k hk⟩⟩
   .obtain⟨x,i⟩:∃ x,rest[k]? = some x:=⟨_,List.getElem?_eq_getElem E⟩
    have HF:Hid (mf es (run++[x]) (rest.eraseIdx k)=r):=by
     show _=_
     rw[<- v.out,Su E z];unfold at0;rw[i];rfl
    rw[z]at m;clear v z;unfold Bx at m;simp only[show ¬ ((k:Int)<0) from by omega,if_false,show decide ((0:Int)<=(k:Int))=true from decide_eq_true (by omega)]at m;obtain⟨p,c8,aj,aw,al,am,X,Y⟩:∃ f c cs,u8=.slice (some ⟨g,f,none⟩) rest.length c/\rest.length<=c/\c<=maxLen/\wr.heap[g]? = some (.cells cs 3)/\∀ j x,rest[j]? = some x->wr.cell? ⟨g,f+j,none⟩=some (.int .i64 x):=by
     rcases H8.out with ⟨a,c,_,h⟩|h
     .subst h;simp at E
     .exact h
    subst aw;have s:g<wr.heap.size:=(Array.getElem?_eq_some_iff.1 X).1;have aI:(k:Int)<(rest.length:Int):=by omega
    go_wp2_with fail;refine m.mono ?_;rintro e w2 ⟨rfl,b⟩;clear m;have ay:w2.cell? ⟨g,p+k,none⟩=some (.int .i64 x):=(b.cell s).trans (Y k x i);have aa:Hid (w2.heap[g]? = some (.cells aj 3)):=(b.block g s).trans X;have ad:Hid (∀ j x,rest[j]? = some x->w2.cell? ⟨g,p+j,none⟩=some (.int .i64 x)):=fun j x i=>(b.cell s).trans (Y j x i)
    have F:ab w2 w.heap.size u7 run:=H7.out.below b;have ag:Below d.heap.size d w2:=J.out.trans (b.mono J.out.size);have U:w.grownBy w2 (some g):=S.out.trans ⟨b.os,b.tape,b.output,b.size,fun k hk _=>b.block k hk⟩;have a2:w.heap.size<=w2.heap.size:=U.size;have H:Hid _:=ag;have I:Hid (World.grownBy _ _ _):=U;have a1:g<w2.heap.size:=Nat.lt_of_lt_of_le s b.size;clear X Y H7 H8 J S b ag U s i;unfold ab at F;go_wp2_with (at_builtin;refine wpList_append_own _ rfl _ _ 39 rfl w.heap.size 3 i0 (.int .i64 0) 1 8 underlying39 hi aF aD aE rfl (by decide) _ _ _ rfl (F.alloc _) ⟨w2.heap.size,0,none⟩ 1 1 [.int .i64 x] rfl rfl (U1 _ _ _ _ (by simp)) (fun u O=>by simp at O;subst O;rfl) (by unfold maxLen;omega) (by omega) (by simp;omega) ?_)
    intro au w4 ap o _;have ar:ab w4 w.heap.size au (run++[x]):=ab.snoc ap;have ao:some g≠u7.ownBlock:=fun e=>by have:=(World.ownsRow.lt F g e.symm).1;omega
    have V:w4.heap[g]? = some (.cells aj 3):=(o.block g (by simp;omega) ao).trans ((Below.heap_alloc _ _ _ a1).trans aa.out);have W:∀ j x,rest[j]? = some x->w4.cell? ⟨g,p+j,none⟩=some (.int .i64 x):=fun j y hy=>by
     rw[World.cell?_of_block ((o.block g (by simp;omega) ao).trans (Below.heap_alloc _ _ _ a1))];exact ad.out j y hy
    have ah:Below d.heap.size d w4:=Below.grown (H.out.alloc H.out.size _) o (H.out.alloc H.out.size _).size (fun j hj=>Nat.le_trans (Nat.le_trans an (Nat.le_of_lt G)) (World.ownsRow.lt F j hj).1);have ak:w.grownBy w4 (some g):=by
     refine⟨o.os.trans I.out.os,o.tape.trans I.out.tape,o.output.trans I.out.output,Nat.le_trans a2 (Nat.le_trans (by simp) o.size),fun k hk hkn=>?_⟩;have aA:k<w2.heap.size:=Nat.lt_of_lt_of_le hk a2;rw[o.block k (by simp;omega) (fun e=>by have:=(World.ownsRow.lt F k e.symm).1;omega),Below.heap_alloc _ _ _ aA];exact I.out.block k hk hkn
    have a6:=Yi w4 g p c8 k rest E al am W (fun j=>by simp[World.frozen?,V]);have ae:=fun q=>ad1 (q:=q) E al am V W
    have a4:Hid (∀ q,md ((w4.drewN q).setCells g p ((rest.eraseIdx k++[0]).map (Value.int .i64))) g (.slice (some ⟨g,p,none⟩) (rest.eraseIdx k).length c8) (rest.eraseIdx k)):=ae;have a5:=List.length_eraseIdx_of_lt E;have a9:Hid (ab _ _ _ _):=ar;have a0:Hid _:=ah;have a3:Hid (World.grownBy _ _ _):=ak;clear ap o V W ae ar ah ak F H I aa ad ay;go_wp2_with fail;refine a6.mono ?_;rintro e w5 ⟨rfl,q,rfl⟩;clear a6;go_wp2;refine⟨⟨run++[x],rest.eraseIdx k,by simp,by rw[List.length_append];simp;omega,?_,(by have hq:=a4.out q;rw[List.map_append,a5]at hq;exact hq),HF.out,?_,a3.out.trans (so w4 q g p _)⟩,?_⟩
    .refine World.ownsRow.kept a9.out (so w4 q g p _) ?_
     cases hv:au.ownBlock with
     | none=>exact .inl rfl
     | some j=>exact .inr fun c=>by have:=(World.ownsRow.lt a9.out j hv).1;have:=Option.some.inj c;omega
    .exact Below.grown a0.out (so w4 q g p _) a0.out.size (fun j hj=>by cases hj;exact an)
    .show ou _<ou _
     simp[ou]
     omega
theorem Uc {es:List Ent} {run:List Int} {e:El}(h:dj es run=some e):ju es run=[e]:=by unfold ju;rw[h]
theorem Ub {es:List Ent} {run:List Int}(h:dj es run=none):ju es run=base (at0 run 0):=by unfold ju;rw[h]
theorem Qg {w:World} {B I:Nat} {z v:Value} {es:List Ent} {run:List Int}(s:ac w B z es) (hn:es.length<=1048576) (J:∀ e ∈ es,e.runes.length<=1048576) (ht:dr w) (t:ab w I v run) (h1:1<=run.length) (F:∀ x ∈ run,bp x=true) :
  Calls prog 180 #[z,v] w fun e w'=>∃ v',e=.returned v'/\ah w' w.heap.size v' (ju es run)/\Below w.heap.size w w':=by
 have d:=yz s t.rowAt hn J;obtain⟨x,y⟩:∃ x,run[0]? = some x:=⟨_,List.getElem?_eq_getElem (by omega)⟩
 have H:at0 run 0=x:=by unfold at0;rw[y];rfl
 have D:=F x (List.mem_of_getElem? y);obtain⟨L,q1,q2⟩:=l7 D;obtain⟨p,N,rfl,_,q,A⟩:=Ho t h1;have o:w.cell? ⟨p,0,none⟩=some (.int .i64 x):=A 0 x y;have M:(0:Int)<(run.length:Int):=by omega
 have W:=fun (u:World) (K:Below w.heap.size w u)=>Ii x L q1 (by omega) u ((ht.below K).1)
 obtain⟨O,Q,P,rfl⟩:∃ a n c,z=.slice a n c:=by
  rcases s.form with ⟨rfl,_⟩|⟨_,_,rfl,_,_,_,_⟩
  .exact⟨_,_,_,rfl⟩
  .exact⟨_,_,_,rfl⟩
 clear s t F D A ht
 cases ho:dj es run with
 | some e =>
  rw[ho]at d;rw[Uc ho];unfold fo elV ph at d;simp only[Option.getD_some,Option.isSome_some]at d;clear ho W;go_enter func180,ntmps180;go_wp2_with fail;refine d.mono ?_;rintro x i ⟨rfl,b⟩;clear d o;go_wp2;go_ret;exact⟨_,rfl,jy [e] rfl rfl (heap_alloc2_new i _ _) (by have:=b.size;omega) (by unfold maxLen;omega),(b.alloc b.size _).alloc (b.alloc b.size _).size _⟩
 | none =>
  rw[ho]at d;rw[Ub ho,H];unfold fo elV ph at d;simp only[Option.getD_none,Option.isSome_none]at d;clear ho;rcases Gs x with m|⟨e,m⟩|⟨e,f,m⟩
  .rw[m]at W ⊢
   unfold wtV at W;have G:∀ (k:Nat) (w:World),(method (k+1) 274 (.agg #[]) "loop.example/g00158/impl.elems").run prog w=.ok (270,.agg #[]) w:=fun _ _=>by kernel_rfl
   clear m;go_enter func180,ntmps180;go_wp2_with fail;refine d.mono ?_;rintro x i ⟨rfl,b⟩;clear d;have g:Below w.heap.size w (i.alloc (.cells #[.int .i64 0,.int .i64 0,.int .i64 0,.bool false] 111)):=b.alloc b.size _;have j:=W _ g;have E:i.cell? ⟨p,0,none⟩=some (.int .i64 _):=(b.cell q).trans o;have C:p<i.heap.size:=Nat.lt_of_lt_of_le q b.size;clear W o;go_wp2_with fail;refine j.mono ?_;rintro x r ⟨rfl,l⟩;have h:=g.trans (l.mono g.size);clear j l g;go_wp2;go_ret;exact⟨_,rfl,⟨rfl,.inl ⟨rfl,rfl⟩⟩,h.alloc h.size _⟩
  .rw[m]at W ⊢
   unfold wtV at W;have G:∀ (k:Nat) (w:World),(method (k+1) 266 (.agg #[.int .i64 e.first,.int .i64 e.second,.int .i64 e.third,.bool e.varies]) "loop.example/g00158/impl.elems").run prog w=.ok (269,.agg #[.int .i64 e.first,.int .i64 e.second,.int .i64 e.third,.bool e.varies]) w:=fun _ _=>by kernel_rfl
   clear m;go_enter func180,ntmps180;go_wp2_with fail;refine d.mono ?_;rintro x i ⟨rfl,b⟩;clear d;have g:Below w.heap.size w (i.alloc (.cells #[.int .i64 0,.int .i64 0,.int .i64 0,.bool false] 111)):=b.alloc b.size _;have j:=W _ g;have E:i.cell? ⟨p,0,none⟩=some (.int .i64 _):=(b.cell q).trans o;have C:p<i.heap.size:=Nat.lt_of_lt_of_le q b.size;clear W o;go_wp2_with fail;refine j.mono ?_;rintro x r ⟨rfl,l⟩;have h:=g.trans (l.mono g.size);clear j l g;go_wp2;go_ret;exact⟨_,rfl,jy [e] rfl rfl (heap_alloc2_new r _ _) (by have:=h.size;omega) (by unfold maxLen;omega),(h.alloc h.size _).alloc (h.alloc h.size _).size _⟩
  .rw[m]at W ⊢
   unfold wtV at W;have G:∀ (k:Nat) (w:World),(method (k+1) 280 (.agg #[.int .i64 e.first,.int .i64 e.second,.int .i64 e.third,.bool e.varies,.int .i64 f.first,.int .i64 f.second,.int .i64 f.third,.bool f.varies]) "loop.example/g00158/impl.elems").run prog w=.ok (271,.agg #[.int .i64 e.first,.int .i64 e.second,.int .i64 e.third,.bool e.varies,.int .i64 f.first,.int .i64 f.second,.int .i64 f.third,.bool f.varies]) w:=fun _ _=>by kernel_rfl
   clear m;go_enter func180,ntmps180;go_wp2_with fail;refine d.mono ?_;rintro x i ⟨rfl,b⟩;clear d;have g:Below w.heap.size w (i.alloc (.cells #[.int .i64 0,.int .i64 0,.int .i64 0,.bool false] 111)):=b.alloc b.size _;have j:=W _ g;have E:i.cell? ⟨p,0,none⟩=some (.int .i64 _):=(b.cell q).trans o;have C:p<i.heap.size:=Nat.lt_of_lt_of_le q b.size;clear W o;go_wp2_with fail;refine j.mono ?_;rintro x r ⟨rfl,l⟩;have h:=g.trans (l.mono g.size);clear j l g;go_wp2;go_ret;exact⟨_,rfl,jy [e,f] rfl rfl (heap_alloc2_new r _ _) (by have:=h.size;omega) (by unfold maxLen;omega),(h.alloc h.size _).alloc (h.alloc h.size _).size _⟩
theorem Sq {w:World} {B a:Nat} {v:Value} {es:List El}(h:ah w a v es) (i:B<=a):ah w B v es:=by
 refine⟨h.1,?_⟩;rcases h.2 with h|⟨g,b,c,d,e,f⟩
 .exact .inl h
 .exact .inr ⟨g,b,c,d,Nat.le_trans i e,f⟩
theorem ak7 (x:ByteArray):∀ y ∈ aR x,bp y=true:=by
 unfold aR;split
 .intro y a
  exact M0 (Fj x.size x) y (Kk.1 a)
 .intro y a;cases a
def mm (u:World) (b:Nat) (v:Value) (sh:Bool) (lv:Int):Prop:=u.heap[b]? = some (.cells #[v,.bool sh,.int .i64 lv] 56)
theorem mm.below {B b:Nat} {u u':World} {v:Value} {sh:Bool} {lv:Int}(h:mm u b v sh lv) (c:Below B u u') (a:b<B):mm u' b v sh lv:=(c.block b a).trans h
theorem mm.cells {b:Nat} {u:World} {v:Value} {sh:Bool} {lv:Int}(h:mm u b v sh lv):u.cell? ⟨b,0,none⟩=some v/\u.cell? ⟨b,1,none⟩=some (.bool sh)/\u.cell? ⟨b,2,none⟩=some (.int .i64 lv) :=
 ⟨cell_of_row _ _ 0 _ _ _ h,cell_of_row _ _ 1 _ _ _ h,cell_of_row _ _ 2 _ _ _ h⟩
def aj4 (w0:World) (es:List Ent) (goal:List El) (v6 v8:Value) (wr:World):Prop :=
 ∃ (g:Nat) (rest:List Int) (done:List El),w0.heap.size<=g/\rest.length<=200/\done.length+2*rest.length<=400/\(∀ x ∈ rest,bp x=true)/\md wr g v6 rest/\ah wr w0.heap.size v8 done/\done++eb es rest=goal/\Below w0.heap.size w0 wr
theorem Yu {u u':World} {B g:Nat} {v:Value} {es:List El} {cs:Array Value}(h:ah u B v es) (j:u.grownBy u' (some g)) (i:u.heap[g]? = some (.cells cs 3)):ah u' B v es:=by
 refine World.ownsRow.kept h j ?_;rcases h.2 with ⟨rfl,_⟩|⟨c,k,l,rfl,_,a,_⟩
 .exact .inl rfl
 .refine .inr fun e=>?_
  have b:c=g:=Option.some.inj e;subst b;rw[i]at a;injection a with d;injection d with _ f;exact absurd f (by decide)
theorem Qh {w b:World} {B:Nat} {J v:Value} {es:List Ent} {rs:List Int}(A:Below b.heap.size b w) (I:ac b B J es) (W:es.length<=1048576) (hr:∀ e ∈ es,e.runes.length<=1048576) (ht:dr b) (hI:ab w b.heap.size v rs) (E:rs.length<=200) (D:∀ x ∈ rs,bp x=true) :
  Calls prog 154 #[J,v] w fun e w'=>∃ v',e=.returned v'/\ah w' b.heap.size v' (eb es rs)/\Below b.heap.size b w':=by
 obtain⟨va,vc,rfl⟩:∃ a c,J=.slice a es.length c:=by
  rcases I.form with ⟨rfl,rfl⟩|⟨_,_,rfl,_,_,_,_⟩
  .exact⟨_,_,rfl⟩
  .exact⟨_,_,rfl⟩
 have Q:Hid (aj4 b es (eb es rs) v (.slice none 0 0) w):=by
  rcases hI.midI with h|⟨g,f,c,d,h1,h2,r,G,H,h6⟩
  .exact⟨b.heap.size,rs,[],bR,E,by simp;omega,D,.inl h,⟨rfl,.inl ⟨rfl,rfl⟩⟩,rfl,A⟩
  .exact⟨g,rs,[],G,E,by simp;omega,D,.inr ⟨f,c,d,h1,h2,r,H,h6⟩,⟨rfl,.inl ⟨rfl,rfl⟩⟩,rfl,A⟩
 have Y:Hid (ac _ _ _ _):=I;have Z:Hid (dr _):=ht;generalize eb es rs=goal at *;clear E D hI A I ht;go_enter func154,ntmps154;go_wp2_with fail;go_loopw [1,5] (fun v6 v8 wr=>aj4 b es goal v6 v8 wr) (fun v6 _ _=>ou v6)
 case atStart=>exact Q.out
 case round =>
  clear Q;obtain⟨g,rest,done,S,am,aj,C,m,s,T,i⟩:=hrel;have al:=m.len;have n:=hZ T;clear T;by_cases h0:rest.length=0
  .have a9:rest=[]:=List.eq_nil_of_length_eq_zero h0
   subst a9;have HF:Hid (done=goal):=by show _=_;rw[<- n.out,Ha,List.append_nil]
   obtain⟨a6,c6,rfl⟩:∃ a c,u1=.slice a 0 c:=by
    rcases m with ⟨a,c,h,_⟩|⟨f,c,d,h,_⟩
    .exact⟨a,c,h⟩
    .exact⟨_,_,h⟩
   have o:Hid (ah _ _ _ _):=s;have a3:Hid _:=i;clear m n s i;go_wp2;go_ret;rw[<- HF.out];exact⟨_,rfl,o.out,a3.out⟩
  .obtain⟨f,c,d,a5,a7,a8,z,R⟩:∃ f c d,u1=.slice (some ⟨g,f,none⟩) rest.length c/\rest.length<=c/\c<=maxLen/\wr.heap[g]? = some (.cells d 3)/\∀ j x,rest[j]? = some x->wr.cell? ⟨g,f+j,none⟩=some (.int .i64 x):=by
    rcases m with ⟨a,c,_,h⟩|h
    .subst h;exact absurd rfl h0
    .exact h
   subst a5;have hk:=pe (es:=es) (l:=rest) (by omega);have TR:=Rz wr b B g f c d (.slice va es.length vc) es rest i Y.out W hr Z.out S (by omega) (by omega) a7 a8 z R;have a0:Hid ((done++ju es (fk es rest).1)++eb es (fk es rest).2=goal):=by
    show _=_
    rw[<- n.out,Ef (es:=es) (l:=rest) (by omega),List.append_assoc]
   have ak:=C8 es (fk es rest).1;obtain⟨k1,k2,k3,k4,k5⟩:=hk;generalize (fk es rest).1=run at *;generalize (fk es rest).2=rest2 at *;have L:=hZ z;have U:∀ x ∈ run,bp x=true:=fun x hx=>C x (k4 x hx)
   have V:∀ x ∈ rest2,bp x=true:=fun x hx=>C x (k5 x hx)
   have a1:=hZ V;have M:=hZ U;have o:Hid (ah _ _ _ _):=s;have ae:=i.size;have ai:(0:Int)<(rest.length:Int):=by omega
   clear z R m n C U V s k3 k4 k5 i;go_wp2_with fail;refine TR.mono ?_;rintro e w3 ⟨vr,vq,rfl,ir,mq,k,g3⟩;clear TR;have K:Hid (ah w3 b.heap.size u5 done):=Yu o.out g3 L.out;have X:=Qg (Y.out.below k) W hr (Z.out.below k) ir k2 M.out;have aa:=k.size;have P:Hid (md _ _ _ _):=mq;have t:Hid _:=k;clear o g3 L ir mq k M;go_wp2_with fail;refine X.mono ?_;rintro e w4 ⟨v4,rfl,e4,p⟩;clear X;have y:Below b.heap.size b w4:=t.out.trans (p.mono t.out.size);have q:ah w4 b.heap.size u5 done:=K.out.below p;have m4:md w4 g vq rest2:=P.out.below p;have N:Hid (md _ _ _ _):=m4;have u:Hid (Below _ _ _):=y;have ad:=y.size;clear K P t p y m4;go_wp2_with (at_builtin;refine A8 rfl _ _ rfl b.heap.size _ u5 v4 done (ju es run) rfl rfl q e4 (by omega) (by omega) ?_)
   intro v5 w5 e5 F;have O:Hid (md w5 g vq rest2):=by
    rcases N.out with h|⟨f,c,d,q1,q2,q3,q4,q5⟩
    .exact .inl h
    .refine md.kept (.inr ⟨f,c,d,q1,q2,q3,q4,q5⟩) F fun c=>?_
     rcases q.2 with ⟨rfl,_⟩|⟨g',af,ag,rfl,_,r,_⟩
     .cases c
     .have e2:g=g':=Option.some.inj c
      subst e2;rw[q4]at r;injection r with G;injection G with _ H;exact absurd H (by decide)
   have a2:Hid (Below b.heap.size b w5):=Below.grown u.out F u.out.size (fun j hj=>(World.ownsRow.lt q j hj).1);have a4:Hid (ah _ _ _ _):=e5;clear e5 F q e4 N u;go_wp2;refine⟨⟨g,rest2,done++ju es run,S,by omega,by rw[List.length_append];omega,a1.out,O.out,a4.out,a0.out,a2.out⟩,?_⟩;have:=O.out.len;show ou _<ou _
   rw[this];show _<rest.length
   omega
theorem Hn {w:World} {B:Nat} {C:Value} {es:List Ent} {sh:Bool} {lv:Int}(x:ByteArray) (Q:x.size<=1048576) (A:ac w B C es) (I:∀ e ∈ es,e.runes.length<=1048576) (ht:dr w) :
  Calls prog 136 #[.agg #[C,.bool sh,.int .i64 lv],.string x] w fun e w'=>∃ v',e=.returned (.tuple #[v',.bool (okE es lv x)])/\ah w' w.heap.size v' (f9 es lv x)/\Below w.heap.size w w':=by
 obtain⟨g,h,rfl⟩:∃ a c,C=.slice a es.length c:=by
  rcases A.form with ⟨rfl,rfl⟩|⟨_,_,rfl,_,_,_,_⟩
  .exact⟨_,_,rfl⟩
  .exact⟨_,_,rfl⟩
 have d:Below w.heap.size w (w.alloc (.cells #[.slice g es.length h,.bool sh,.int .i64 lv] 56)):=bY _;have j:mm (w.alloc (.cells #[.slice g es.length h,.bool sh,.int .i64 lv] 56)) w.heap.size (.slice g es.length h) sh lv:=heap_alloc_new w _;have f:=Gl x Q (w.alloc (.cells #[.slice g es.length h,.bool sh,.int .i64 lv] 56)) (ht.below d);have F:=Xs x;have E:=ak7 x;unfold f9 okE;have v:Hid (ac _ _ _ _):=A.below d;have y:Hid (dr _):=ht.below d;clear A ht
 cases hok:ok4 x
 .rw[hok]at f
  rw[Bool.false_and,if_neg (by simp)];clear hok;go_enter func136,ntmps136;go_wp2_with fail;refine f.mono ?_;rintro e D ⟨K,rfl,r,b⟩;clear f;go_wp2;go_ret2;exact⟨_,rfl,⟨rfl,.inl ⟨rfl,rfl⟩⟩,d.trans (b.mono d.size)⟩
 .have t:aR x=rn4 x:=by unfold aR;rw[hok];rfl
  rw[hok,t]at f;rw[t]at F E;rw[Bool.true_and];clear hok t;generalize rn4 x=rs at *;have i:=fun (u:World) (J:Below (w.alloc (.cells #[.slice g es.length h,.bool sh,.int .i64 lv] 56)).heap.size (w.alloc (.cells #[.slice g es.length h,.bool sh,.int .i64 lv] 56)) u)=>ut (sh:=sh) (lv:=lv) (v.out.below J) I (y.out.below J)
  have n:w.heap.size<(w.alloc (.cells #[.slice g es.length h,.bool sh,.int .i64 lv] 56)).heap.size:=by simp
  cases hro:ay es lv
  .rw[hro]at i
   rw[if_neg (by simp)];clear hro;go_enter func136,ntmps136;go_wp2_with fail;refine f.mono ?_;rintro e D ⟨K,rfl,r,b⟩;have k:=i _ b;obtain⟨o,p,q⟩:=(j.below b n).cells;have O:=b.size;clear f i j;go_wp2_with fail;refine k.mono ?_;rintro e L ⟨rfl,l⟩;clear k;have z:=d.trans ((b.trans (l.mono b.size)).mono d.size);go_wp2;go_ret2;exact⟨_,rfl,⟨rfl,.inl ⟨rfl,rfl⟩⟩,z⟩
  .rw[hro]at i
   rw[if_pos rfl];have N:es.length<=1048576:=by have:=(of_decide_eq_true (show decide _=true from hro)).1;omega
   clear hro;obtain⟨M,s⟩:∃ M,Hid (M=w.alloc (.cells #[.slice g es.length h,.bool sh,.int .i64 lv] 56)):=⟨_,rfl⟩
   have G:=s.out;rw[<- G]at d j v y n f i;clear G;go_enter func136,ntmps136;go_wp2_with fail;rw[<- s.out];refine f.mono ?_;rintro e D ⟨K,rfl,r,b⟩;have k:=i _ b;obtain⟨o,p,q⟩:=(j.below b n).cells;have O:=b.size;have R:w.heap.size<D.heap.size:=by omega
   clear f i s;go_wp2_with fail;refine k.mono ?_;rintro e L ⟨rfl,l⟩;have m:=b.trans (l.mono b.size);have H:=Qh m v.out N I y.out (r.below l) F E;clear k o p q;obtain⟨o,p,q⟩:=(j.below m n).cells;have T:=m.size;have S:w.heap.size<L.heap.size:=by omega
   clear r b l m;go_wp2_with fail;refine H.mono ?_;rintro e V ⟨U,rfl,P,z⟩;clear H o p q;go_wp2;go_ret2;exact⟨_,rfl,Sq P d.size,d.trans (z.mono d.size)⟩
theorem yx (sh:Bool):ck sh []=[]:=rfl
theorem zc (sh:Bool):dc sh []=[]:=rfl
def yr (u:World) (b:Nat) (v v':Value):Prop:=u.heap[b]? = some (.cells #[v,v'] 170)
theorem yr.below {B b:Nat} {u u':World} {v v':Value}(h:yr u b v v') (c:Below B u u') (a:b<B):yr u' b v v':=(c.block b a).trans h
theorem yr.cells {b:Nat} {u:World} {v v':Value}(h:yr u b v v'):u.cell? ⟨b,0,none⟩=some v/\u.cell? ⟨b,1,none⟩=some v'/\∀ j,u.frozen? ⟨b,j,none⟩=false :=
 ⟨cell_of_row _ _ 0 _ _ _ h,cell_of_row _ _ 1 _ _ _ h,fun j=>by unfold yr at h;simp[World.frozen?,h]⟩
theorem xe {w:World} {B:Nat} {v:Value} {es:List El}(h:ah w B v es):∃ a c,v=.slice a es.length c:=by
 obtain⟨a,c,h,_⟩:=tu h;exact⟨a,c,h⟩
theorem jq {w:World} {B:Nat} {v:Value} {l:List Int}(h:ab w B v l):∃ a c,v=.slice a l.length c:=by
 obtain⟨a,c,h,_⟩:=rj h;exact⟨a,c,h⟩
theorem a95 {w:World} {B b:Nat} {v x y:Value} {es:List El}(h:ah w B v es) (a:b<B):ah ((w.setCell ⟨b,0,none⟩ x).setCell ⟨b,1,none⟩ y) B v es :=
 World.ownsRow.kept (World.ownsRow.kept h (au w b 0 x) (by
  cases e:v.ownBlock with
  | none=>exact .inl rfl
  | some g=>exact .inr fun c=>by have:=(World.ownsRow.lt h g e).1;cases c;omega)) (au _ b 1 y) (by
  cases e:v.ownBlock with
  | none=>exact .inl rfl
  | some g=>exact .inr fun c=>by have:=(World.ownsRow.lt h g e).1;cases c;omega)
theorem Zn {w:World} {B b:Nat} {v x y:Value} {l:List Int}(h:ab w B v l) (a:b<B):ab ((w.setCell ⟨b,0,none⟩ x).setCell ⟨b,1,none⟩ y) B v l :=
 World.ownsRow.kept (World.ownsRow.kept h (au w b 0 x) (by
  cases e:v.ownBlock with
  | none=>exact .inl rfl
  | some g=>exact .inr fun c=>by have:=(World.ownsRow.lt h g e).1;cases c;omega)) (au _ b 1 y) (by
  cases e:v.ownBlock with
  | none=>exact .inl rfl
  | some g=>exact .inr fun c=>by have:=(World.ownsRow.lt h g e).1;cases c;omega)
theorem Gw {w u:World} {b B:Nat} {x y:Value}(h:Below B w u) (a:B<=b):Below B w ((u.setCell ⟨b,0,none⟩ x).setCell ⟨b,1,none⟩ y):=(h.setCell a _).setCell a _
theorem Jo {w:World} {B:Nat} {t:Value} {es:List Ent} {sh:Bool} {lv:Int}(x:ByteArray) (I:x.size<=1048576) (r:ac w B t es) (H:∀ e ∈ es,e.runes.length<=1048576) (ht:dr w) :
  Calls prog 107 #[.agg #[t,.bool sh,.int .i64 lv],.string x] w fun e w'=>∃ v v',e=.returned (.tuple #[.agg #[v,v'],.bool (okE es lv x)])/\ah w' w.heap.size v (ck sh (f9 es lv x))/\ab w' w.heap.size v' (dc sh (f9 es lv x))/\Below w.heap.size w w':=by
 obtain⟨g,h,rfl⟩:∃ a c,t=.slice a es.length c:=by
  rcases r.form with ⟨rfl,rfl⟩|⟨_,_,rfl,_,_,_,_⟩
  .exact⟨_,_,rfl⟩
  .exact⟨_,_,rfl⟩
 have k:Below w.heap.size w ((w.alloc (.cells #[.slice g es.length h,.bool sh,.int .i64 lv] 56)).alloc (.cells #[.slice none 0 0,.slice none 0 0] 170)):=(bY _).alloc (by simp) _;have C:mm ((w.alloc (.cells #[.slice g es.length h,.bool sh,.int .i64 lv] 56)).alloc (.cells #[.slice none 0 0,.slice none 0 0] 170)) w.heap.size (.slice g es.length h) sh lv:=by
  unfold mm;rw[Below.heap_alloc _ _ _ (by simp)];exact heap_alloc_new w _
 have A:yr ((w.alloc (.cells #[.slice g es.length h,.bool sh,.int .i64 lv] 56)).alloc (.cells #[.slice none 0 0,.slice none 0 0] 170)) (w.heap.size+1) (.slice none 0 0) (.slice none 0 0):=heap_alloc2_new w _ _;have E:((w.alloc (.cells #[.slice g es.length h,.bool sh,.int .i64 lv] 56)).alloc (.cells #[.slice none 0 0,.slice none 0 0] 170)).heap.size=w.heap.size+1+1:=by simp
 have f:=Hn (sh:=sh) (lv:=lv) x I (r.below k) H (ht.below k);have N:=Fl es lv x;have n:Hid (_=_):=E;have K:Hid (mm _ _ _ _ _):=C;have y:Hid (yr _ _ _ _):=A;have j:Hid _:=k;clear r ht H I E C A k
 cases hok:okE es lv x
 .rw[hok]at f
  have D:f9 es lv x=[]:=by unfold f9;rw[hok];rfl
  rw[D,yx,zc];clear hok D N;go_enter func107,ntmps107;go_wp2_with fail;refine f.mono ?_;rintro e u ⟨Y,rfl,m,b⟩;have d:=y.out.below b (by rw[n.out];omega);obtain⟨Q,R,S⟩:=d.cells;have l:w.heap.size+1<u.heap.size:=(Array.getElem?_eq_some_iff.1 d).1;have i:Hid _:=j.out.trans (b.mono j.out.size);clear f m b d;go_wp2;refine bodyPost_ret (v:=.tuple #[.agg #[.slice none 0 0,.slice none 0 0],.bool false]) ?_ rfl ⟨_,_,rfl,⟨rfl,.inl ⟨rfl,rfl⟩⟩,⟨rfl,.inl ⟨rfl,rfl⟩⟩,Gw i.out (by omega)⟩;rw[results_cell_tmp rfl];go_simp
 .rw[hok]at f
  clear hok;generalize f9 es lv x=el at *;go_enter func107,ntmps107;go_wp2_with fail;refine f.mono ?_;rintro e u ⟨Y,rfl,m,b⟩;have F:=K.out.below b (by rw[n.out];omega);have d:=y.out.below b (by rw[n.out];omega);obtain⟨V,W,X⟩:=F.cells;have l:w.heap.size+1<u.heap.size:=(Array.getElem?_eq_some_iff.1 d).1;have i:Hid _:=j.out.trans (b.mono j.out.size);have G:=L7 sh (by omega) m;have z:Hid (yr _ _ _ _):=d;clear f m b d F;go_wp2_with fail;refine G.mono ?_;rintro e Z ⟨v2,v3,rfl,s,q,p⟩;have o:=z.out.below p l;obtain⟨Q,R,S⟩:=o.cells;have a0:w.heap.size+1<Z.heap.size:=(Array.getElem?_eq_some_iff.1 o).1;have J:Hid _:=i.out.trans (p.mono i.out.size);have M:Hid (ab _ _ _ _):=s;have L:Hid (ah _ _ _ _):=q;obtain⟨P,U,rfl⟩:=xe q;obtain⟨O,T,rfl⟩:=jq s
  clear G V W X p o s q z;go_wp2;refine bodyPost_ret (v:=.tuple #[.agg #[.slice P (ck sh el).length U,.slice O (dc sh el).length T],.bool true]) ?_ rfl ⟨_,_,rfl,Sq (a95 L.out l) (by omega),sj (Zn M.out l) (by omega),Gw J.out (by omega)⟩;rw[results_cell_tmp rfl];go_simp
theorem Pv {w:World} {B g:Nat} {d f:Value} {xs:List El} {fs:List Int}(lv:Nat) (h1:1<=lv) (h:lv<=4) (a:ah w B d xs) (b:ab w g f fs) (c:fs.length=xs.length) (hn:xs.length<=1048576) :
  Calls prog 108 #[.agg #[d,f],.int .i64 lv] w fun e w'=>∃ v,e=.returned v/\ab w' w.heap.size v (wts lv xs fs)/\Below w.heap.size w w':=by
 obtain rfl|rfl|rfl|rfl:lv=1\/lv=2\/lv=3\/lv=4:=by omega
 .exact Dg a b c hn
 .exact Ps a b c hn
 .exact Pt a b c hn
 .exact Pu a b c hn
def ay6 (W:World) (xs:List El) (fs:List Int) (n:Nat) (v8 v9:Value) (wr:World):Prop :=
 ∃ l:Nat,l<=n/\v9=.int .i64 ((l:Int)+1)/\Bys wr W.heap.size v8 (km xs fs l)/\Below W.heap.size W wr
def ay5 (W:World) (B:Nat) (v33:Value) (pre ws:List Int) (v8 i:Value) (wr:World):Prop :=
 ∃ k:Nat,k<=ws.length/\i=.int .i64 k/\Bys wr W.heap.size v8 (pre++j9 (ws.take k))/\ab wr B v33 ws/\Below W.heap.size W wr
theorem ai5 {a:List Int} {k:Nat} {x:Int}(h:a[k]? = some x) (b:List Int):b++j9 (a.take (k+1))=(b++j9 (a.take k))++[x / 256,x % 256]:=by
 rw[List.take_add_one,h,Ji,List.append_assoc];simp[Jk]
theorem ar0 {lv:Nat} {es:List El} {sh:Bool}(h:∀ e ∈ es,lc e):∀ n ∈ wts lv (ck sh es) (dc sh es),1<=n/\n<=65535 :=
 Gf (my h _).2 (my h _).1 _
theorem ao1 {es:List Ent} {sh:Bool} {lv:Int} {x:ByteArray}(h:okE es lv x=true):qf es sh lv x=ix (km (ck sh (f9 es lv x)) (dc sh (f9 es lv x)) lv.toNat):=by
 unfold qf f9;rw[if_pos h,if_pos h];rfl
theorem a91 {es:List Ent} {lv:Int} {x:ByteArray}:∀ e ∈ f9 es lv x,lc e:=by
 unfold f9;split
 .rename_i h
  exact rd (ui h).2.2 (Dy x)
 .intro e a;cases a
theorem t7 {w:World} {B:Nat} {ve:Value} {es:List Ent} {sh:Bool} {lv:Int}(x:ByteArray) (hx:x.size<=1048576) (hE:ac w B ve es) (hr:∀ e ∈ es,e.runes.length<=1048576) (ht:dr w) :
  Calls prog 60 #[.agg #[ve,.bool sh,.int .i64 lv],.string x] w fun e w'=>e=.returned (.tuple #[.string (qf es sh lv x),.bool (okE es lv x)])/\Below w.heap.size w w':=by
 obtain⟨G,H,rfl⟩:∃ a c,ve=.slice a es.length c:=by
  rcases hE.form with ⟨rfl,rfl⟩|⟨_,_,rfl,_,_,_,_⟩
  .exact⟨_,_,rfl⟩
  .exact⟨_,_,rfl⟩
 obtain⟨i0,hi0,ax,av,aw⟩:=info_parts Sw;have K:Below w.heap.size w (w.alloc (.cells #[.slice G es.length H,.bool sh,.int .i64 lv] 56)):=bY _;have a0:mm (w.alloc (.cells #[.slice G es.length H,.bool sh,.int .i64 lv] 56)) w.heap.size (.slice G es.length H) sh lv:=heap_alloc_new w _;have C:=Jo (sh:=sh) (lv:=lv) x hx (hE.below K) hr (ht.below K);have a4:=Fl es lv x;have aK:=sw sh (f9 es lv x);have aL:=z8 sh (f9 es lv x);have ao:(dc sh (f9 es lv x)).length=(ck sh (f9 es lv x)).length:=by omega
 have an:(ck sh (f9 es lv x)).length<=400:=by omega
 have o:Hid _:=K;have I:Hid (mm _ _ _ _ _):=a0;have ae:Hid (_=_):=ao;clear hE ht hr hx a4 aK aL ao K a0
 cases hok:okE es lv x
 .rw[hok]at C
  have aq:qf es sh lv x=⟨#[]⟩:=by unfold qf;rw[hok];rfl
  rw[aq];clear hok aq ae an I;go_enter func60,ntmps60;go_wp2_with fail;refine C.mono ?_;rintro e f ⟨v1,v2,rfl,v,z,m⟩;obtain⟨p,r,rfl⟩:=xe v;obtain⟨q,s,rfl⟩:=jq z;have a9:Hid _:=o.out.trans (m.mono o.out.size);clear C z v m;go_wp2;go_ret2;exact⟨rfl,a9.out.alloc a9.out.size _⟩
 .rw[hok]at C
  obtain⟨_,aV,aW⟩:=nn (ui hok).2.2;obtain⟨n,rfl⟩:∃ n:Nat,lv=(n:Int):=⟨lv.toNat,by omega⟩
  rw[ao1 hok,Int.toNat_natCast];have E:=fun l=>ar0 (lv:=l) (sh:=sh) (a91 (es:=es) (lv:=(n:Int)) (x:=x))
  have aE:=hZ E;have a8:=fun l=>ox l (ck sh (f9 es n x)) (dc sh (f9 es n x)) (ck sh (f9 es n x)).length
  have D:=fun l=>Nq (ck sh (f9 es n x)) (dc sh (f9 es n x)) l
  clear hok E;generalize ck sh (f9 es n x)=xs at *;generalize dc sh (f9 es n x)=fs at *;have aG:Hid (∀ l,(wts l xs fs).length<=400):=fun l=>Nat.le_trans (a8 l) an
  have aB:Hid (∀ l,l<=4->(km xs fs l).length<=3208):=fun l hl=>Nat.le_trans (D l) (Nat.le_trans (Nat.mul_le_mul hl (show 2+2*xs.length<=802 by omega)) (by omega))
  clear a8 D;obtain⟨W0,J⟩:∃ W0,Hid (W0=w.alloc (.cells #[.slice G es.length H,.bool sh,.int .i64 n] 56)):=⟨_,rfl⟩
  have a7:w.heap.size<W0.heap.size:=by rw[J.out];simp
  rw[<- J.out]at o I C;go_enter func60,ntmps60;go_wp2_with fail;rw[<- J.out];refine C.mono ?_;rintro e f ⟨v1,v2,rfl,v,z,m⟩;obtain⟨p,r,rfl⟩:=xe v;obtain⟨q,s,rfl⟩:=jq z;have A:Below f.heap.size f (f.alloc (.cells #[.slice p xs.length r,.slice q fs.length s] 170)):=bY _;have ad:Hid (ah _ _ _ _):=v.below A;have af:Hid (ab _ _ _ _):=z.below A;have T:Hid (yr (f.alloc (.cells #[.slice p xs.length r,.slice q fs.length s] 170)) f.heap.size (.slice p xs.length r) (.slice q fs.length s)):=heap_alloc_new f _;have U:Hid (mm (f.alloc (.cells #[.slice p xs.length r,.slice q fs.length s] 170)) w.heap.size (.slice G es.length H) sh n):=(I.out.below m a7).below A (by have:=m.size;omega)
  have S:Hid (Below w.heap.size w (f.alloc (.cells #[.slice p xs.length r,.slice q fs.length s] 170))):=(o.out.trans (m.mono o.out.size)).trans (A.mono (o.out.trans (m.mono o.out.size)).size);have b0:w.heap.size<f.heap.size:=by have:=m.size;omega
  clear C z v m A I o J;obtain⟨W,L⟩:∃ W,Hid (W=f.alloc (.cells #[.slice p xs.length r,.slice q fs.length s] 170)):=⟨_,rfl⟩
  have am:f.heap.size<W.heap.size:=by rw[L.out];simp
  rw[<- L.out]at ad af T U S;go_wp2_with fail;rw[<- L.out];go_loopw [8,9] (fun v8 v9 wr=>ay6 W xs fs n v8 v9 wr) (fun _ v9 _=>n+1-(intOf v9).toNat)
  case atStart=>exact⟨0,by omega,rfl,World.ownsRow_nil _ _ _ _,bX⟩
  case round =>
   clear L;obtain⟨l,hl,rfl,d,b⟩:=hrel;obtain⟨M,N,c2⟩:=(U.out.below b (by omega)).cells;have Y:=T.out.below b am;obtain⟨O,P,_⟩:=Y.cells;have D:=aB.out l (by omega);have aZ:=b.size;by_cases aX:l<n
   .have aN:(l:Int)+1<=(n:Int):=by omega
    have HK:Hid (Bys _ _ _ _):=d;have t:Hid _:=b;clear d b;go_upto_if 27 with fail
    go_cut [8] from 20 to 47 (fun v8 wx=>Bys wx W.heap.size v8 (km xs fs l++ml (l+1))/\Below W.heap.size W wx)
    case first =>
     by_cases h0:l=0
     .subst h0
      go_wp2;go_meet
      case rel=>exact⟨by simpa [ml] using HK.out,t.out⟩
     .have aT:(1:Int)<(l:Int)+1:=by omega
      have hs:ml (l+1)=[0,0]:=by unfold ml;rw[if_pos (by omega)]
      have HS:Hid _:=hs;have d:=HK.out;unfold Bys at d;clear hs;go_wp2_with (at_builtin;refine wpList_append_own _ rfl _ _ 22 rfl W.heap.size 5 i0 (.int .u8 0) 1 1 underlying22 hi0 ax av aw rfl (by decide) _ _ _ rfl (d.alloc _) ⟨wr.heap.size,0,none⟩ 2 2 [.int .u8 0,.int .u8 0] rfl rfl (y8 _ _ _ _ _ (by simp)) (fun u hu=>by simp at hu;subst hu;rfl) (by unfold maxLen;omega) (by omega) (by simp;omega) ?_)
      intro v4 w4 ar ap _;have ak:Bys w4 W.heap.size v4 (km xs fs l++[0,0]):=Bys.app2 ar;have aH:Below W.heap.size W w4:=Below.grown (t.out.alloc t.out.size _) ap (t.out.alloc t.out.size _).size (fun j hj=>(World.ownsRow.lt d j hj).1);have ay:Hid (Bys _ _ _ _):=ak;clear ar ap d ak;go_wp2;go_meet
      case rel=>exact⟨by rw[HS.out];exact ay.out,aH⟩
    case rest =>
     obtain⟨d,b⟩:=hcut;clear HK t M N c2 O P Y;obtain⟨M,N,c2⟩:=(U.out.below b (by omega)).cells;obtain⟨O,P,_⟩:=(T.out.below b am).cells;have aO:=b.size;have aQ:f.heap.size<wc.heap.size:=by omega
     have WT:=Pv (l+1) (by omega) (by omega) (ad.out.below b) (af.out.below b) ae.out (by omega);have a8:=aG.out (l+1);have aY:(km xs fs l++ml (l+1)).length<=3210:=by
      have:(ml (l+1)).length<=2:=by unfold ml;split <;> simp
      rw[List.length_append];omega
     have aD:Hid (km xs fs (l+1)=(km xs fs l++ml (l+1))++j9 (wts (l+1) xs fs)):=by show _=_;rw[km,List.append_assoc]
     have E:=aE.out (l+1);have ai:Hid (Bys _ _ _ _):=d;have V:Hid _:=b;generalize km xs fs l++ml (l+1)=pre at *;generalize wts (l+1) xs fs=ws at *;have aF:=hZ E;clear d b E;rw[Int.natCast_add]at WT;go_wp2_with fail;refine WT.mono ?_;rintro e w5 ⟨v5,rfl,i5,b5⟩;obtain⟨a5,k5,rfl⟩:=jq i5;have aj:Hid (Bys _ _ _ _):=ai.out.below b5;have aa:Hid _:=V.out.trans (b5.mono V.out.size);have ag:Hid (ab _ _ _ _):=i5;clear WT i5 b5 ai V M N c2 O P;go_wp2_with fail;go_loopw [8,35] (fun v8 i wr=>ay5 W wc.heap.size (.slice a5 ws.length k5) pre ws v8 i wr) (fun _ i _=>ws.length-(intOf i).toNat)
     case atStart=>exact⟨0,Nat.zero_le _,rfl,by rw[List.take_zero,Jj,List.append_nil];exact aj.out,ag.out,aa.out⟩
     case round =>
      clear aj ag aa;obtain⟨k,hk,rfl,d,F,b⟩:=hrel;by_cases a6:k<ws.length
      .obtain⟨y,R⟩:∃ y,ws[k]? = some y:=⟨_,List.getElem?_eq_getElem a6⟩
       have aR:=aF.out y (List.mem_of_getElem? R);have HT:Hid _:=ai5 R pre;obtain⟨Q,rfl,c5⟩:∃ Q,a5=some ⟨Q,0,none⟩/\wr.cell? ⟨Q,k,none⟩=some (.int .i64 y):=by
        rcases F.form with ⟨_,h2⟩|⟨g,aS,h,_,_⟩
        .subst h2;simp at a6
        .injection h with h1 _ h3
         subst h1;subst h3;refine⟨g,rfl,?_⟩;have:=F.cell k a6;rw[R]at this;exact this
       have aU:(k:Int)<(ws.length:Int):=by omega
       obtain⟨b2,b3⟩:=aR;have aJ:(pre++j9 (ws.take k)).length<=4100:=by rw[List.length_append,C4,List.length_take];omega
       have aP:=b.size;have HI:Hid (ab _ _ _ _):=F;obtain⟨X,a3⟩:∃ X,Hid (pre++j9 (ws.take k)=X):=⟨_,rfl⟩
       rw[a3.out]at d HT aJ;unfold Bys at d;clear R F;go_wp2_with (at_builtin;refine wpList_append_own _ rfl _ _ 22 rfl W.heap.size 5 i0 (.int .u8 0) 1 1 underlying22 hi0 ax av aw rfl (by decide) _ _ _ rfl (d.alloc _) ⟨wr.heap.size,0,none⟩ 2 2 [.int .u8 (y / 256),.int .u8 (y % 256)] rfl rfl (y8 _ _ _ _ _ (by simp)) (fun u hu=>by simp at hu;rcases hu with rfl|rfl <;> rfl) (by unfold maxLen;omega) (by omega) (by simp;omega) ?_)
       intro v6 w6 au Z _;have al:Bys w6 W.heap.size v6 (X++[y / 256,y % 256]):=Bys.app2 au;have aI:Below W.heap.size W w6:=Below.grown (b.alloc b.size _) Z (b.alloc b.size _).size (fun j hj=>(World.ownsRow.lt d j hj).1);have aC:Hid (ab w6 wc.heap.size (.slice (some ⟨Q,0,none⟩) ws.length k5) ws):=World.ownsRow.kept (World.ownsRow.alloc HI.out _) Z (dg HI.out d (by decide));have az:Hid (Bys _ _ _ _):=al;clear au Z d al HI c5 b;go_wp2;exact⟨⟨k+1,by omega,by go_num,by rw[HT.out];exact az.out,aC.out,aI⟩,by simp[intOf];omega⟩
      .have D:k=ws.length:=by omega
       subst D;have aA:Hid (Bys wr W.heap.size u8 (km xs fs (l+1))):=by show Bys _ _ _ _;rw[aD.out];rw[List.take_length]at d;exact d
       clear d F;go_wp2;go_roundw
       case rel=>exact⟨l+1,by omega,by go_num,aA.out,b⟩
       case measure=>simp[intOf];omega
   .have aM:l=n:=by omega
    subst aM;have CV:=xb d;clear d M N O P Y;go_wp2;go_ret2;exact⟨rfl,S.out.trans (b.mono S.out.size)⟩
theorem aa0 {es:List Ent} {sh:Bool} {lv:Int} {x:ByteArray}:rf es sh lv x=wts 1 (ck sh (f9 es lv x)) (dc sh (f9 es lv x)):=by
 unfold rf f9;split
 .rfl
 .rfl
theorem zu {w:World} {B:Nat} {o:Value} {es:List Ent} {sh:Bool} {lv:Int}(x:ByteArray) (z:x.size<=1048576) (n:ac w B o es) (y:∀ e ∈ es,e.runes.length<=1048576) (ht:dr w) :
  Calls prog 63 #[.agg #[o,.bool sh,.int .i64 lv],.string x] w fun e w'=>∃ v,e=.returned (.tuple #[v,.bool (okE es lv x)])/\ab w' w.heap.size v (rf es sh lv x)/\Below w.heap.size w w':=by
 obtain⟨M,N,rfl⟩:∃ a c,o=.slice a es.length c:=by
  rcases n.form with ⟨rfl,rfl⟩|⟨_,_,rfl,_,_,_,_⟩
  .exact⟨_,_,rfl⟩
  .exact⟨_,_,rfl⟩
 have j:Below w.heap.size w (w.alloc (.cells #[.slice M es.length N,.bool sh,.int .i64 lv] 56)):=bY _;have C:=Jo (sh:=sh) (lv:=lv) x z (n.below j) y (ht.below j);have I:=Fl es lv x;rw[aa0];have G:=sw sh (f9 es lv x);have H:=z8 sh (f9 es lv x);have h:Hid _:=j;have r:(dc sh (f9 es lv x)).length=(ck sh (f9 es lv x)).length:=by omega
 have q:(ck sh (f9 es lv x)).length<=1048576:=by omega
 have p:Hid (_=_):=r;clear n ht y z I G H r j
 cases hok:okE es lv x
 .rw[hok]at C
  have m:f9 es lv x=[]:=by unfold f9;rw[hok];rfl
  rw[m,yx,zc]at C;rw[m,yx,zc];clear hok m p q;go_enter func63,ntmps63;go_wp2_with fail;refine C.mono ?_;rintro e k ⟨K,L,rfl,b,d,g⟩;obtain⟨t,D,rfl⟩:=xe b;obtain⟨u,E,rfl⟩:=jq d;have f:Hid _:=h.out.trans (g.mono h.out.size);clear C d b g;go_wp2;go_ret2;exact⟨_,rfl,⟨rfl,.inl ⟨rfl,rfl⟩⟩,f.out.alloc f.out.size _⟩
 .rw[hok]at C
  clear hok;generalize ck sh (f9 es lv x)=xs at *;generalize dc sh (f9 es lv x)=fs at *;go_enter func63,ntmps63;go_wp2_with fail;refine C.mono ?_;rintro e k ⟨K,L,rfl,b,d,g⟩;obtain⟨t,D,rfl⟩:=xe b;obtain⟨u,E,rfl⟩:=jq d;have f:Hid _:=h.out.trans (g.mono h.out.size);have i:Below k.heap.size k (k.alloc (.cells #[.slice t xs.length D,.slice u fs.length E] 170)):=bY _;have s:=Dg (b.below i) (d.below i) p.out q;have l:Hid _:=f.out.trans (i.mono f.out.size);clear C d b g i;go_wp2_with fail;refine s.mono ?_;rintro e P ⟨O,rfl,A,J⟩;have F:Hid (ab _ _ _ _):=A;clear s A;go_wp2;go_ret2;exact⟨_,rfl,sj F.out l.out.size,l.out.trans (J.mono l.out.size)⟩
theorem T6 {x y:Int}(h:x=y):Ending.returned (.int .i64 x)=.returned (.int .i64 y):=by rw[h]
def ax4 (a b:List Int) (i:Value):Prop:=∃ k:Nat,k<=a.length/\k<=b.length/\i=.int .i64 k/\∀ j,j<k->a[j]? = b[j]?
theorem Xv (w:World) (g g' c L:Nat) (a b:List Int) (T:a.length<=1048576) (U:b.length<=1048576) (s:∀ x ∈ a,1<=x/\x<=65535) (t:∀ x ∈ b,1<=x/\x<=65535)
  (h1:∀ j x,a[j]? = some x->w.cell? ⟨g,j,none⟩=some (.int .i64 x)) (h2:∀ j x,b[j]? = some x->w.cell? ⟨g',j,none⟩=some (.int .i64 x)) :
  Calls prog 64 #[.slice (some ⟨g,0,none⟩) a.length c,.slice (some ⟨g',0,none⟩) b.length L] w fun e w'=>e=.returned (.int .i64 (iz a b))/\∃ n,w'=w.drewN n:=by
 have v:=hZ s;have z:=hZ t;have J:Hid _:=h1;have K:Hid _:=h2;clear s t h1 h2;rcases Nat.lt_or_ge a.length b.length with B|B;all_goals
  have C:(a.length:Int)<(b.length:Int)\/(b.length:Int)<=(a.length:Int):=by omega
  clear C;go_enter func64,ntmps64;go_wp2;all_goals
   go_loopw [14] (fun i wr=>ax4 a b i/\∃ n,wr=w.drewN n) (fun i _=>a.length-(intOf i).toNat)
   case atStart=>exact⟨⟨0,Nat.zero_le _,Nat.zero_le _,rfl,fun j hj=>by omega⟩,0,rfl⟩
   case round =>
    obtain⟨⟨k,N,O,rfl,u⟩,p,rfl⟩:=hrel;have f:=hZ u;clear u;by_cases G:k<a.length/\k<b.length
    .obtain⟨E,F⟩:=G
     obtain⟨x,l⟩:∃ x,a[k]? = some x:=⟨_,List.getElem?_eq_getElem E⟩
     obtain⟨y,m⟩:∃ y,b[k]? = some y:=⟨_,List.getElem?_eq_getElem F⟩
     have R:=J.out k x l;have S:=K.out k y m;have H:=v.out x (List.mem_of_getElem? l);have I:=z.out y (List.mem_of_getElem? m);have P:(k:Int)<(a.length:Int):=by omega
     have Q:(k:Int)<(b.length:Int):=by omega
     have r:(FloatKind.f64.format.order (floatOfInt .f64 x) (floatOfInt .f64 y) != some .eq)=!decide (x=y):=congrArg (fun b=>!b) (ad2 H I);have h:Hid (a[k]? = some x/\b[k]? = some y):=⟨l,m⟩;clear l m;by_cases d:x=y
     .rw[decide_eq_true d,Bool.not_true]at r
      have A:Hid (∀ j,j<k+1->a[j]? = b[j]?):=fun j hj=>by
       by_cases c:j=k
       .subst c;rw[h.out.1,h.out.2,d]
       .exact f.out j (by omega)
      clear d h f;go_wp2_with fail;go_quiet (fail)
      go_wp2;exact⟨⟨⟨k+1,by omega,by omega,by go_num,A.out⟩,p+nq,rfl⟩,by simp[intOf];omega⟩
     .rw[decide_eq_false d,Bool.not_false]at r
      have o:Hid (iz a b=k):=Lx a b k x y f.out h.out.1 h.out.2 d;clear d h f;go_wp2_with fail;go_quiet (fail)
      go_wp2;go_ret;rw[o.out];exact⟨rfl,p+nq,rfl⟩
    .have q:iz a b=k:=by
      have:=Jc a b (fun j hj=>f.out j (by omega));omega
     have o:=hZ q;clear q f;have D:(k=a.length/\a.length<b.length)\/(k=b.length/\b.length<=a.length):=by omega
     rcases D with ⟨rfl,M⟩|⟨rfl,M⟩;all_goals
      first
       | (exfalso;omega)
       | (
         go_wp2;go_ret;rw[o.out];exact⟨T6 (by omega),p,rfl⟩)
theorem Gk (w:World) (a b:Option Addr) (c d:Nat) (l l':List Int) (h:l=[]\/l'=[]) :
  Calls prog 64 #[.slice a l.length c,.slice b l'.length d] w fun e w'=>e=.returned (.int .i64 (iz l l'))/\∃ n,w'=w.drewN n:=by
 have f:Hid (iz l l'=0):=by
  show _=_
  rcases h with rfl|rfl
  .simp[iz]
  .cases l <;> simp[iz]
 rw[f.out];have hn:(l.length=0/\(l.length:Int)<=(l'.length:Int))\/(l'.length=0/\(l'.length:Int)<(l.length:Int))\/(l'.length=0/\l.length=0):=by
  rcases h with rfl|rfl
  .left;simp
  .by_cases c:l.length=0
   .right;right;exact⟨rfl,c⟩
   .right;left;exact⟨rfl,by simp;omega⟩
 generalize l.length=n at *;generalize l'.length=m at *;clear h f;go_enter func64,ntmps64;go_wp2;all_goals
  go_loop [14] (fun i=>i=.int .i64 0) (fun _=>0)
  case atStart=>rfl
  case round =>
   subst hrel;have j:¬ (0:Int)<(n:Int)\/¬ (0:Int)<(m:Int):=by omega
   have k:(n=0\/m=0):=by omega
   rcases hn with ⟨rfl,g⟩|⟨rfl,g⟩|⟨rfl,rfl⟩;all_goals
    first
     | (exfalso;omega)
     | (
       go_wp2;go_ret;exact⟨T6 (by omega),0,rfl⟩)
theorem Xu {w:World} {B l:Nat} {h f:Value} {a b:List Int}(p:a.length<=1048576) (q:b.length<=1048576) (i:∀ x ∈ a,1<=x/\x<=65535) (k:∀ x ∈ b,1<=x/\x<=65535) (h1:ab w B h a) (h2:ab w l f b) :
  Calls prog 64 #[h,f] w fun e w'=>e=.returned (.int .i64 (iz a b))/\∃ n,w'=w.drewN n:=by
 rcases h1.form with ⟨rfl,rfl⟩|⟨g,c,rfl,_,_⟩
 .obtain⟨d,d2,rfl⟩:∃ d d2,f=.slice d b.length d2:=by
   rcases h2.form with ⟨rfl,rfl⟩|⟨g,c,rfl,_,_⟩
   .exact⟨_,_,rfl⟩
   .exact⟨_,_,rfl⟩
  exact Gk w none d 0 d2 [] b (.inl rfl)
 .rcases h2.form with ⟨rfl,rfl⟩|⟨o,m,rfl,_,_⟩
  .exact Gk w (some ⟨g,0,none⟩) none c 0 a [] (.inr rfl)
  .exact Xv w g o c m a b p q i k (fun j x hx=>by have:=h1.cell j (List.getElem?_eq_some_iff.1 hx).1;rw[hx]at this;exact this) (fun j x hx=>by have:=h2.cell j (List.getElem?_eq_some_iff.1 hx).1;rw[hx]at this;exact this)
theorem Bo {w:World} {B:Nat} {H:Value} {es:List Ent} {sh:Bool} {lv:Int}(x:ByteArray) (Y:x.size<=1048576) (y:ByteArray) (Z:y.size<=1048576) (z:ac w B H es) (G:∀ e ∈ es,e.runes.length<=1048576) (ht:dr w) :
  Calls prog 26 #[.agg #[H,.bool sh,.int .i64 lv],.string x,.string y] w fun e w'=>e=.returned (.tuple #[.bool (ww es sh lv x y),.bool (okE es lv x && okE es lv y)])/\Below w.heap.size w w':=by
 obtain⟨A,C,rfl⟩:=(show ∃ a c,H=.slice a es.length c by
  rcases z.form with ⟨rfl,rfl⟩|⟨_,_,rfl,_,_,_,_⟩
  .exact⟨_,_,rfl⟩
  .exact⟨_,_,rfl⟩)
 have v:Below w.heap.size w (w.alloc (.cells #[.slice A es.length C,.bool sh,.int .i64 lv] 56)):=bY _;have I:mm (w.alloc (.cells #[.slice A es.length C,.bool sh,.int .i64 lv] 56)) w.heap.size (.slice A es.length C) sh lv:=heap_alloc_new w _;have E:w.heap.size<(w.alloc (.cells #[.slice A es.length C,.bool sh,.int .i64 lv] 56)).heap.size:=by simp
 have m:=zu (sh:=sh) (lv:=lv) x Y (z.below v) G (ht.below v);have n:=fun (u:World) (N:Below w.heap.size w u)=>zu (sh:=sh) (lv:=lv) y Z (z.below N) G (ht.below N)
 have l:Hid _:=v;have D:Hid (mm _ _ _ _ _):=I;have a0:=Jw es sh lv x;have a3:=Jw es sh lv y;have V:=Jx es sh lv x;have W:=Jx es sh lv y;unfold ww;generalize rf es sh lv x=F at *;generalize rf es sh lv y=o at *;generalize okE es lv x=oa at *;generalize okE es lv y=ob at *;clear z G v I ht
 cases oa
 .rw[Bool.false_and,if_neg (by simp)]
  all_goals
   go_enter func26,ntmps26;go_wp2_with fail;refine m.mono ?_;rintro e S ⟨Q,rfl,g,d⟩;have b:=l.out.trans (d.mono l.out.size);have k:=n _ b;obtain⟨r,s,t⟩:=(D.out.below d E).cells;have j:Hid (ab _ _ _ _):=g;obtain⟨L,O,rfl⟩:=jq g;clear m n d g;go_wp2_with fail;refine k.mono ?_;rintro e T ⟨R,rfl,i,f⟩;have q:=b.trans (f.mono b.size);have p:=j.out.below f;obtain⟨M,P,rfl⟩:=jq i;clear k r s t f b j;clear i p;go_wp2;go_ret2;exact⟨rfl,q⟩
 .cases ob
  .rw[Bool.and_false,if_neg (by simp)]
   go_enter func26,ntmps26;go_wp2_with fail;refine m.mono ?_;rintro e S ⟨Q,rfl,g,d⟩;have b:=l.out.trans (d.mono l.out.size);have k:=n _ b;obtain⟨r,s,t⟩:=(D.out.below d E).cells;have j:Hid (ab _ _ _ _):=g;obtain⟨L,O,rfl⟩:=jq g;clear m n d g;go_wp2_with fail;refine k.mono ?_;rintro e T ⟨R,rfl,i,f⟩;have q:=b.trans (f.mono b.size);have p:=j.out.below f;obtain⟨M,P,rfl⟩:=jq i;clear k r s t f b j;clear i p;go_wp2;go_ret2;exact⟨rfl,q⟩
  .rw[Bool.and_true,if_pos rfl]
   go_enter func26,ntmps26;go_wp2_with fail;refine m.mono ?_;rintro e S ⟨Q,rfl,g,d⟩;have b:=l.out.trans (d.mono l.out.size);have k:=n _ b;obtain⟨r,s,t⟩:=(D.out.below d E).cells;have j:Hid (ab _ _ _ _):=g;obtain⟨L,O,rfl⟩:=jq g;clear m n d g;go_wp2_with fail;refine k.mono ?_;rintro e T ⟨R,rfl,i,f⟩;have q:=b.trans (f.mono b.size);have p:=j.out.below f;obtain⟨M,P,rfl⟩:=jq i;clear k r s t f b j;have K:=Xu (by omega) (by omega) V W p i;clear i p;go_wp2_with fail;refine K.mono ?_;rintro e w3 ⟨rfl,n3,J⟩;have U:Below w.heap.size w w3:=by rw[J];exact below_drewN q n3
   clear K J;have X:Hid (((iz F o:Int) == (o.length:Int))=decide (iz F o=o.length)):=by
    show _=_
    by_cases h:iz F o=o.length
    .rw[h];simp
    .rw[decide_eq_false h];simp;omega
   go_wp2;go_ret2;rw[Gv,<- X.out];exact⟨rfl,U⟩
theorem ao7 (a:ByteArray) (w:World):Calls prog 109 #[.string a] w fun e w'=>e=.returned (.bool false)/\w'=w:=by
 have h:(a.toList == a.toList)=true:=by simp
 go_enter func109,ntmps109;go_wp2;go_ret;exact⟨rfl,rfl⟩
theorem Qa (b c:ByteArray) (w:World):Calls prog 61 #[.string b,.string c] w fun e w'=>e=.returned (.int .i64 (mp b c))/\w'=w:=by
 have N:=fun a w=>ao7 a w
 cases hlt:Op.bytesLess b.toList c.toList
 .cases heq:(b.toList == c.toList)
  .have d:Hid (mp b c=1):=by show _=_;simp[mp,ltS,gtS,eqS,hlt,heq]
   rw[d.out];go_enter func61,ntmps61;go_wp2_with (go_at_call 109;refine (N _ _).mono ?_;rintro e w' ⟨rfl,rfl⟩)
   go_ret;exact⟨rfl,rfl⟩
  .have d:Hid (mp b c=0):=by show _=_;simp[mp,ltS,gtS,eqS,hlt,heq]
   rw[d.out];go_enter func61,ntmps61;go_wp2_with (go_at_call 109;refine (N _ _).mono ?_;rintro e w' ⟨rfl,rfl⟩)
   go_ret;exact⟨rfl,rfl⟩
 .have d:Hid (mp b c=-1):=by show _=_;simp[mp,ltS,hlt]
  rw[d.out];go_enter func61,ntmps61;go_wp2_with (go_at_call 109;refine (N _ _).mono ?_;rintro e w' ⟨rfl,rfl⟩)
  go_ret;exact⟨rfl,rfl⟩
theorem Ep {w:World} {B:Nat} {A:Value} {es:List Ent} {sh:Bool} {lv:Int}(x:ByteArray) (H:x.size<=1048576) (y:ByteArray) (I:y.size<=1048576) (p:ac w B A es) (z:∀ e ∈ es,e.runes.length<=1048576) (ht:dr w) :
  Calls prog 24 #[.agg #[A,.bool sh,.int .i64 lv],.string x,.string y] w fun e w'=>e=.returned (.tuple #[.int .i64 (U4 es sh lv x y),.bool (okE es lv x && okE es lv y)])/\Below w.heap.size w w':=by
 obtain⟨q,r,rfl⟩:=(show ∃ a c,A=.slice a es.length c by
  rcases p.form with ⟨rfl,rfl⟩|⟨_,_,rfl,_,_,_,_⟩
  .exact⟨_,_,rfl⟩
  .exact⟨_,_,rfl⟩)
 have o:Below w.heap.size w (w.alloc (.cells #[.slice q es.length r,.bool sh,.int .i64 lv] 56)):=bY _;have C:mm (w.alloc (.cells #[.slice q es.length r,.bool sh,.int .i64 lv] 56)) w.heap.size (.slice q es.length r) sh lv:=heap_alloc_new w _;have v:w.heap.size<(w.alloc (.cells #[.slice q es.length r,.bool sh,.int .i64 lv] 56)).heap.size:=by simp
 have i:=t7 (sh:=sh) (lv:=lv) x H (p.below o) z (ht.below o);have j:=fun (u:World) (E:Below w.heap.size w u)=>t7 (sh:=sh) (lv:=lv) y I (p.below E) z (ht.below E)
 have h:Hid _:=o;have t:Hid (mm _ _ _ _ _):=C;unfold U4;generalize qf es sh lv x=ka at *;generalize qf es sh lv y=kb at *;generalize okE es lv x=oa at *;generalize okE es lv y=ob at *;clear p z o C ht
 cases oa
 .rw[Bool.false_and,if_neg (by simp)]
  go_enter func24,ntmps24;go_wp2_with fail;refine i.mono ?_;rintro e F ⟨rfl,d⟩;have b:=h.out.trans (d.mono h.out.size);have f:=j _ b;obtain⟨l,m,n⟩:=(t.out.below d v).cells;clear i j d;go_wp2_with fail;refine f.mono ?_;rintro e s ⟨rfl,g⟩;have k:=b.trans (g.mono b.size);clear f l m n g b;go_wp2;go_ret2;exact⟨rfl,k⟩
 .cases ob
  .rw[Bool.and_false,if_neg (by simp)]
   go_enter func24,ntmps24;go_wp2_with fail;refine i.mono ?_;rintro e F ⟨rfl,d⟩;have b:=h.out.trans (d.mono h.out.size);have f:=j _ b;obtain⟨l,m,n⟩:=(t.out.below d v).cells;clear i j d;go_wp2_with fail;refine f.mono ?_;rintro e s ⟨rfl,g⟩;have k:=b.trans (g.mono b.size);clear f l m n g b;go_wp2;go_ret2;exact⟨rfl,k⟩
  .rw[Bool.and_true,if_pos rfl]
   go_enter func24,ntmps24;go_wp2_with fail;refine i.mono ?_;rintro e F ⟨rfl,d⟩;have b:=h.out.trans (d.mono h.out.size);have f:=j _ b;obtain⟨l,m,n⟩:=(t.out.below d v).cells;clear i j d;go_wp2_with fail;refine f.mono ?_;rintro e s ⟨rfl,g⟩;have k:=b.trans (g.mono b.size);clear f l m n g b;have D:=Qa ka kb s;go_wp2_with fail;refine D.mono ?_;rintro e w3 ⟨rfl,G⟩;obtain rfl:s=w3:=G.symm;clear D;go_wp2;go_ret2;exact⟨rfl,k⟩
end Go.Proofs.YtjbmgghehdemdaaGreatDoor
