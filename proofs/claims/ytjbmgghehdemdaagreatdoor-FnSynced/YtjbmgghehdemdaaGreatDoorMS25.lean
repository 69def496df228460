/- ITake2 -/
import Derived.Test.YtjbmgghehdemdaaGreatDoorMS23
import Derived.Deep.RegionWith
import Derived.Deep.Upon
import Derived.Test.YtjbmgghehdemdaaGreatDoorMS11
namespace Go.Proofs.YtjbmgghehdemdaaGreatDoor
set_option maxRecDepth 100000
set_option maxHeartbeats 16000000
open _root_.Go.Proofs.Tryz
open Go.RowKit
def my (w:World) (g:Nat) (v:Value) (l:List Int):Prop :=
 (∃ a c,v=.slice a 0 c/\l=[])\/∃ f c cs,v=.slice (some ⟨g,f,none⟩) l.length c/\l.length<=c/\c<=maxLen/\w.heap[g]? = some (.cells cs 3)/\∀ j x,l[j]? = some x->w.cell? ⟨g,f+j,none⟩=some (.int .i64 x)
def pu:Value->Nat
 | .slice _ n _=>n
 | _=>0
theorem my.len {w:World} {g:Nat} {v:Value} {l:List Int}(h:my w g v l):pu v=l.length:=by
 rcases h with ⟨a,c,rfl,rfl⟩|⟨f,c,b,rfl,_⟩ <;> rfl
theorem my.below {w w':World} {g:Nat} {v:Value} {l:List Int}(h:my w g v l) (b:Below w.heap.size w w'):my w' g v l:=by
 rcases h with h|⟨f,c,e,i,k,m,a,n⟩
 .exact .inl h
 .have d:=(Array.getElem?_eq_some_iff.1 a).1
  exact .inr ⟨f,c,e,i,k,m,(b.block g d).trans a,fun j x hx=>(b.cell d).trans (n j x hx)⟩
theorem my.kept {w w':World} {g:Nat} {v:Value} {l:List Int} {row:Option Nat}(h:my w g v l) (e:w.grownBy w' row) (b:some g≠row):my w' g v l:=by
 rcases h with h|⟨f,c,i,k,m,n,d,o⟩
 .exact .inl h
 .have a:=(Array.getElem?_eq_some_iff.1 d).1
  exact .inr ⟨f,c,i,k,m,n,(e.block g a b).trans d,fun j x hx=>(World.cell?_of_block (e.block g a b)).trans (o j x hx)⟩
theorem Bu {T:TypeId}(g:Nat):∀ (vs:List Value) (f:Nat) (w:World) (cs:Array Value),w.heap[g]? = some (.cells cs T)->∃ cs',(w.setCells g f vs).heap[g]? = some (.cells cs' T)
 | [],_,_,cs,h=>⟨cs,h⟩
 | v::vs,f,w,cs,h=>by
  rw[World.setCells];exact Bu g vs (f+1) _ _ (heap_setCell_same w g f cs T v h)
theorem Dh (g:Nat):∀ (vs:List Value) (f:Nat) (w:World),(w.setCells g f vs).heap.size=w.heap.size
 | [],_,_=>rfl
 | v::vs,f,w=>by
  rw[World.setCells,Dh g vs (f+1)];simp[World.setCell]
theorem Di (g:Nat):∀ (vs:List Value) (f:Nat) (w:World),(w.setCells g f vs).tape=w.tape
 | [],_,_=>rfl
 | v::vs,f,w=>by
  rw[World.setCells,Di g vs (f+1)];rfl
theorem un (w:World) (q g f:Nat) (vs:List Value):w.grownBy ((w.drewN q).setCells g f vs) (some g) :=
 ⟨World.os_setCells _ g f vs,Di g vs f _,World.output_setCells _ g f vs,by rw[Dh];exact bR,fun k hk hne=>World.heap_setCells_other _ g f vs hk (fun e=>hne (by rw[e]))⟩
theorem am4 {w:World} {g f c q k:Nat} {cs:Array Value} {l:List Int}(r:k<l.length) (h2:l.length<=c) (o:c<=maxLen) (b:w.heap[g]? = some (.cells cs 3)) (p:∀ j x,l[j]? = some x->w.cell? ⟨g,f+j,none⟩=some (.int .i64 x)) :
  my ((w.drewN q).setCells g f ((l.eraseIdx k++[0]).map (Value.int .i64))) g (.slice (some ⟨g,f,none⟩) (l.eraseIdx k).length c) (l.eraseIdx k):=by
 have e:(w.drewN q).heap[g]? = some (.cells cs 3):=b;obtain⟨d,h⟩:=Bu g ((l.eraseIdx k++[0]).map (Value.int .i64)) f (w.drewN q) cs e;have m:=List.length_eraseIdx_of_lt r;refine .inr ⟨f,c,d,rfl,by omega,o,h,fun j x hx=>?_⟩;have n:(w.drewN q).there g f ((l.eraseIdx k++[0]).map (Value.int .i64)).length:=fun j a=>by
  have i:j<l.length:=by simp[m]at a;omega
  refine⟨?_,by simp[World.frozen?,b]⟩;have:=p j l[j] (List.getElem?_eq_getElem i);show (w.cell? ⟨g,f+j,none⟩).isSome=true
  rw[this];rfl
 have a:j<(l.eraseIdx k).length:=(List.getElem?_eq_some_iff.1 hx).1;refine World.rangeAt_setCells_same _ g f _ n j (.int .i64 x) ?_;rw[List.getElem?_map,List.getElem?_append_left a,hx];rfl
theorem Vk (w:World) (n:Nat) (x:Value) (t:TypeId) (hn:n=w.heap.size):∀ j u,[x][j]? = some u->(w.alloc (.cells #[x] t)).cell? ((⟨n,0,none⟩:Addr).add j)=some u:=by
 subst hn;intro j u a;match j,a with
 | 0,a=>simp at a;subst a;simp[Addr.add]
def V9 (w w0:World) (es:List Ent) (g N:Nat) (goal:List Int × List Int) (v7 v8:Value) (wr:World):Prop :=
 ∃ run rest,1<=run.length/\run.length+rest.length=N/\aa wr w.heap.size v7 run/\my wr g v8 rest/\mz es run rest=goal/\Below w0.heap.size w0 wr/\w.grownBy wr (some g)
theorem a82 {w:World} {g f c n:Nat} {cs:Array Value} {l:List Int}(hn:n<=l.length) (h2:l.length<=c) (d:c<=maxLen) (a:w.heap[g]? = some (.cells cs 3)) (b:∀ j x,l[j]? = some x->w.cell? ⟨g,f+j,none⟩=some (.int .i64 x)) :
  my w g (.slice (some ⟨g,f+n,none⟩) (l.length-n) (c-n)) (l.drop n):=by
 refine .inr ⟨f+n,c-n,cs,by rw[List.length_drop],by rw[List.length_drop];omega,by omega,a,fun j x hx=>?_⟩;rw[List.getElem?_drop]at hx;rw[Nat.add_assoc];exact b (n+j) x hx
theorem Jw {w:World} {B:Nat} {v:Value} {l:List Int}(h:aa w B v l) (h1:1<=l.length):∃ g c,v=.slice (some ⟨g,0,none⟩) l.length c/\B<=g/\g<w.heap.size/\∀ j x,l[j]? = some x->w.cell? ⟨g,0+j,none⟩=some (.int .i64 x):=by
 rcases h.form with ⟨rfl,rfl⟩|⟨g,a,rfl,_,_⟩
 .simp at h1
 .refine⟨g,a,rfl,(World.ownsRow.lt h g rfl).1,(World.ownsRow.lt h g rfl).2,fun j x hx=>?_⟩
  have b:=(List.getElem?_eq_some_iff.1 hx).1;rw[Nat.zero_add,h.cell j b,hx];rfl
theorem Pv {w w0:World} {B l g:Nat} {b d i:Value} {es:List Ent} {run rest:List Int}(r:ac w0 B b es) (hn:es.length<=1048576) (s:∀ e ∈ es,e.runes.length<=1048576) (ht:fh w0) (h:Below w0.heap.size w0 w)
  (t:aa w l d run) (u:my w g i rest) (h1:1<=run.length) (y:run.length+rest.length<=3000) :
  Calls prog 201 #[b,d,i] w fun e w'=>e=.returned (Dm (lm es run rest))/\Below w.heap.size w w':=by
 rcases u with ⟨a,c,rfl,rfl⟩|⟨f,c,v,rfl,o,x,p,q⟩
 .exact Pw w b d a c es run
 .obtain⟨n,m,rfl,_,k,j⟩:=Jw t h1
  exact Px w B n 0 m g f c b es run rest (r.below h) hn s (ht.below h) k (Array.getElem?_eq_some_iff.1 p).1 h1 (by omega) (by omega) o j q
theorem Tu (w w0:World) (B g f c:Nat) (cs:Array Value) (P:Value) (es:List Ent) (l:List Int) (Y:Below w0.heap.size w0 w) (M:ac w0 B P es) (hn:es.length<=1048576) (hr:∀ e ∈ es,e.runes.length<=1048576) (ht:fh w0)
  (an:w0.heap.size<=g) (h1:1<=l.length) (hl:l.length<=3000) (h2:l.length<=c) (h3:c<=maxLen) (h4:w.heap[g]? = some (.cells cs 3)) (h5:∀ j x,l[j]? = some x->w.cell? ⟨g,f+j,none⟩=some (.int .i64 x)) :
  Calls prog 179 #[P,.slice (some ⟨g,f,none⟩) l.length c] w fun e w'=>∃ vr vq,e=.returned (.tuple #[vr,vq])/\aa w' w.heap.size vr (gu es l).1/\my w' g vq (gu es l).2/\Below w0.heap.size w0 w'/\w.grownBy w' (some g):=by
 obtain⟨i0,hi,aF,aD,aE⟩:=info_parts eh;have F:g<w.heap.size:=(Array.getElem?_eq_some_iff.1 h4).1;have RF:=ab0 w B g f c P es l (M.below Y) hn hr F h1 hl h2 h5;obtain⟨aG,av,aH⟩:=L7 (es:=es) h1;obtain⟨p,HG⟩:∃ p,Hid (gu es l=p):=⟨_,rfl⟩
 have t:Hid (mz es (l.take (nt es l)) (l.drop (nt es l))=p):=HG.out;rw[HG.out];clear HG;generalize nt es l=n at *;obtain⟨va,vn,vc,aC⟩:∃ a n c,P=.slice a n c:=by
  rcases M.form with ⟨rfl,_⟩|⟨_,_,rfl,_,_,_,_⟩
  .exact⟨_,_,_,rfl⟩
  .exact⟨_,_,_,rfl⟩
 subst aC;have HE:Hid (ac _ _ _ _):=M;have HT:Hid (fh _):=ht;have Q:Hid _:=Y;have Z:Hid (∀ j x,l[j]? = some x->w.cell? ⟨g,f+j,none⟩=some (.int .i64 x)):=h5;have H4:Hid (w.heap[g]? = some (.cells cs 3)):=h4;have aK:n<=c:=by omega
 clear M ht Y h5 h4;go_enter func179,ntmps179;go_wp2_with fail;refine RF.mono ?_;rintro e w1 ⟨rfl,z⟩;clear RF;have C:=fun (u:World) (N:Below w1.heap.size w1 u)=>ag8 u g f c (l.take n) (by rw[List.length_take];omega) (fun j x d=>by
  have az:j<n:=by
   have:=(List.getElem?_eq_some_iff.1 d).1;rw[List.length_take]at this;omega
  rw[List.getElem?_take_of_lt az]at d;rw[N.cell (Nat.lt_of_lt_of_le F z.size),z.cell F];exact Z.out j x d)
 rw[show (l.take n).length=n by rw[List.length_take];omega]at C;go_upto_region 2 with fail
 go_cut [7,8] from 14 to 20 (fun v7 v8 wx=>aa wx w1.heap.size v7 (l.take n)/\v8=.slice (if c=n then some ⟨g,f,none⟩ else some ⟨g,f+n,none⟩) (l.length-n) (c-n)/\Below w1.heap.size w1 wx)
 case first =>
  by_cases J:c=n
  .subst J
   go_region_with (go_at_call 200;refine (C _ (by repeat (first|exact bX|refine Below.drew ?_))).mono ?_;rintro e u6 ⟨v6,rfl,L,A⟩)
   all_goals
    have K:aa u6 w1.heap.size v6 (l.take c)/\Below w1.heap.size w1 u6:=⟨L,by first|exact A|exact (bX.drew).trans A⟩;clear L A C;go_wp2_with fail;go_meet
    case rel=>exact⟨K.1,by simp;omega,K.2⟩
  .have ax:(c == n)=false:=by simpa using J
   go_region_with (go_at_call 200;refine (C _ (by repeat (first|exact bX|refine Below.drew ?_))).mono ?_;rintro e u6 ⟨v6,rfl,L,A⟩)
   all_goals
    have K:aa u6 w1.heap.size v6 (l.take n)/\Below w1.heap.size w1 u6:=⟨L,by first|exact A|exact (bX.drew).trans A⟩;clear L A C;go_wp2_with fail;go_meet
    case rel=>exact⟨K.1,by rw[if_neg J],K.2⟩
 case rest =>
  obtain⟨i7,rfl,bc⟩:=hcut;clear C;have S:Below w0.heap.size w0 w1:=Q.out.trans (z.mono Q.out.size);have s:Below w.heap.size w wc:=z.trans (bc.mono z.size);have ai:Below w0.heap.size w0 wc:=S.trans (bc.mono S.size);have a7:wc.heap[g]? = some (.cells cs 3):=(s.block g F).trans H4.out;have a8:∀ j x,l[j]? = some x->wc.cell? ⟨g,f+j,none⟩=some (.int .i64 x):=fun j x d=>(s.cell F).trans (Z.out j x d)
  have hM:my wc g (.slice (if c=n then some ⟨g,f,none⟩ else some ⟨g,f+n,none⟩) (l.length-n) (c-n)) (l.drop n):=by
   by_cases J:c=n
   .refine .inl ⟨if c=n then some ⟨g,f,none⟩ else some ⟨g,f+n,none⟩,c-n,?_,List.drop_eq_nil_of_le (by omega)⟩
    rw[show l.length-n=0 by omega]
   .rw[if_neg J]
    exact a82 av h2 h3 a7 a8
  have aq:V9 w w0 es g l.length p u7 (.slice (if c=n then some ⟨g,f,none⟩ else some ⟨g,f+n,none⟩) (l.length-n) (c-n)) wc :=
   ⟨l.take n,l.drop n,by rw[List.length_take];omega,by rw[List.length_take,List.length_drop];omega,gd i7 z.size,hM,t.out,ai,⟨s.os,s.tape,s.output,s.size,fun k hk _=>s.block k hk⟩⟩
  have af:Hid (V9 _ _ _ _ _ _ _ _ _):=aq;clear aq hM a7 a8 ai s S i7 bc z t H4 Z Q;generalize (Value.slice (if c=n then some ⟨g,f,none⟩ else some ⟨g,f+n,none⟩) (l.length-n) (c-n))=v8 at *;go_wp2_with fail;go_loopw [7,8] (fun v7 v8 wr=>V9 w w0 es g l.length p v7 v8 wr) (fun _ v8 _=>pu v8)
  case atStart=>exact af.out
  case round =>
   clear af;obtain⟨run,rest,aB,aL,j7,O,r,jb,jg⟩:=hrel;have i:=Pv HE.out hn hr HT.out jb j7 O aB (by omega);have aJ:=O.len;have t:Hid (mz es run rest=p):=r;have I:Hid _:=jb;have R:Hid (World.grownBy _ _ _):=jg;have H7:Hid (aa _ _ _ _):=j7;have H8:Hid (my _ _ _ _):=O;clear r jb jg j7 O;rcases Ct es run rest with v|⟨k,D,v⟩
   .rw[v]at i
    have HF:Hid (p=(run,rest)):=by show _=_;rw[<- t.out];exact M0 v
    clear t v;unfold Dm at i;simp only[show (-1:Int)<0 from by decide,if_true,show decide ((0:Int)<=-1)=false from rfl]at i;go_wp2_with fail;refine i.mono ?_;rintro e w2 ⟨rfl,b⟩;clear i;go_wp2;go_ret2;rw[HF.out];exact⟨_,_,rfl,H7.out.below b,H8.out.below b,I.out.trans (b.mono I.out.size),R.out.trans ⟨b.os,b.tape,b.output,b.size,fun k hk _=>b.block k hk⟩⟩
   .obtain⟨x,d⟩:∃ x,rest[k]? = some x:=⟨_,List.getElem?_eq_getElem D⟩
    have HF:Hid (mz es (run++[x]) (rest.eraseIdx k)=p):=by
     show _=_
     rw[<- t.out,Ue D v];unfold at0;rw[d];rfl
    rw[v]at i;clear t v;unfold Dm at i;simp only[show ¬ ((k:Int)<0) from by omega,if_false,show decide ((0:Int)<=(k:Int))=true from decide_eq_true (by omega)]at i;obtain⟨o,c8,aj,aw,al,am,W,X⟩:∃ f c cs,u8=.slice (some ⟨g,f,none⟩) rest.length c/\rest.length<=c/\c<=maxLen/\wr.heap[g]? = some (.cells cs 3)/\∀ j x,rest[j]? = some x->wr.cell? ⟨g,f+j,none⟩=some (.int .i64 x):=by
     rcases H8.out with ⟨a,c,_,h⟩|h
     .subst h;simp at D
     .exact h
    subst aw;have r:g<wr.heap.size:=(Array.getElem?_eq_some_iff.1 W).1;have aI:(k:Int)<(rest.length:Int):=by omega
    go_wp2_with fail;refine i.mono ?_;rintro e w2 ⟨rfl,b⟩;clear i;have ay:w2.cell? ⟨g,o+k,none⟩=some (.int .i64 x):=(b.cell r).trans (X k x d);have ab:Hid (w2.heap[g]? = some (.cells aj 3)):=(b.block g r).trans W;have ad:Hid (∀ j x,rest[j]? = some x->w2.cell? ⟨g,o+j,none⟩=some (.int .i64 x)):=fun j x d=>(b.cell r).trans (X j x d)
    have E:aa w2 w.heap.size u7 run:=H7.out.below b;have ag:Below w0.heap.size w0 w2:=I.out.trans (b.mono I.out.size);have T:w.grownBy w2 (some g):=R.out.trans ⟨b.os,b.tape,b.output,b.size,fun k hk _=>b.block k hk⟩;have a2:w.heap.size<=w2.heap.size:=T.size;have G:Hid _:=ag;have H:Hid (World.grownBy _ _ _):=T;have a1:g<w2.heap.size:=Nat.lt_of_lt_of_le r b.size;clear W X H7 H8 I R b ag T r d;unfold aa at E;go_wp2_with (at_builtin;refine wpList_append_own _ rfl _ _ 39 rfl w.heap.size 3 i0 (.int .i64 0) 1 8 underlying39 hi aF aD aE rfl (by decide) _ _ _ rfl (E.alloc _) ⟨w2.heap.size,0,none⟩ 1 1 [.int .i64 x] rfl rfl (Vk _ _ _ _ (by simp)) (fun u N=>by simp at N;subst N;rfl) (by unfold maxLen;omega) (by omega) (by simp;omega) ?_)
    intro au w4 ap m _;have ar:aa w4 w.heap.size au (run++[x]):=aa.snoc ap;have ao:some g≠u7.ownBlock:=fun e=>by have:=(World.ownsRow.lt E g e.symm).1;omega
    have U:w4.heap[g]? = some (.cells aj 3):=(m.block g (by simp;omega) ao).trans ((Below.heap_alloc _ _ _ a1).trans ab.out);have V:∀ j x,rest[j]? = some x->w4.cell? ⟨g,o+j,none⟩=some (.int .i64 x):=fun j y hy=>by
     rw[World.cell?_of_block ((m.block g (by simp;omega) ao).trans (Below.heap_alloc _ _ _ a1))];exact ad.out j y hy
    have ah:Below w0.heap.size w0 w4:=Below.grown (G.out.alloc G.out.size _) m (G.out.alloc G.out.size _).size (fun j hj=>Nat.le_trans (Nat.le_trans an (Nat.le_of_lt F)) (World.ownsRow.lt E j hj).1);have ak:w.grownBy w4 (some g):=by
     refine⟨m.os.trans H.out.os,m.tape.trans H.out.tape,m.output.trans H.out.output,Nat.le_trans a2 (Nat.le_trans (by simp) m.size),fun k hk hkn=>?_⟩;have aA:k<w2.heap.size:=Nat.lt_of_lt_of_le hk a2;rw[m.block k (by simp;omega) (fun e=>by have:=(World.ownsRow.lt E k e.symm).1;omega),Below.heap_alloc _ _ _ aA];exact H.out.block k hk hkn
    have a6:=a11 w4 g o c8 k rest D al am V (fun j=>by simp[World.frozen?,U]);have ae:=fun q=>am4 (q:=q) D al am U V
    have a4:Hid (∀ q,my ((w4.drewN q).setCells g o ((rest.eraseIdx k++[0]).map (Value.int .i64))) g (.slice (some ⟨g,o,none⟩) (rest.eraseIdx k).length c8) (rest.eraseIdx k)):=ae;have a5:=List.length_eraseIdx_of_lt D;have a9:Hid (aa _ _ _ _):=ar;have a0:Hid _:=ah;have a3:Hid (World.grownBy _ _ _):=ak;clear ap m U V ae ar ah ak E G H ab ad ay;go_wp2_with fail;refine a6.mono ?_;rintro e w5 ⟨rfl,q,rfl⟩;clear a6;go_wp2;refine⟨⟨run++[x],rest.eraseIdx k,by simp,by rw[List.length_append];simp;omega,?_,(by have hq:=a4.out q;rw[List.map_append,a5]at hq;exact hq),HF.out,?_,a3.out.trans (un w4 q g o _)⟩,?_⟩
    .refine World.ownsRow.kept a9.out (un w4 q g o _) ?_
     cases hv:au.ownBlock with
     | none=>exact .inl rfl
     | some j=>exact .inr fun c=>by have:=(World.ownsRow.lt a9.out j hv).1;have:=Option.some.inj c;omega
    .exact Below.grown a0.out (un w4 q g o _) a0.out.size (fun j hj=>by cases hj;exact an)
    .show pu _<pu _
     simp[pu]
     omega
theorem Vv {es:List Ent} {run:List Int} {e:El}(h:du es run=some e):kp es run=[e]:=by unfold kp;rw[h]
theorem Vu {es:List Ent} {run:List Int}(h:du es run=none):kp es run=base (at0 run 0):=by unfold kp;rw[h]
theorem Sh {w:World} {B I:Nat} {z v:Value} {es:List Ent} {run:List Int}(s:ac w B z es) (hn:es.length<=1048576) (J:∀ e ∈ es,e.runes.length<=1048576) (ht:fh w) (t:aa w I v run) (h1:1<=run.length) (F:∀ x ∈ run,bz x=true) :
  Calls prog 180 #[z,v] w fun e w'=>∃ v',e=.returned v'/\aj w' w.heap.size v' (kp es run)/\Below w.heap.size w w':=by
 have d:=Ao s t.rowAt hn J;obtain⟨x,y⟩:∃ x,run[0]? = some x:=⟨_,List.getElem?_eq_getElem (by omega)⟩
 have H:at0 run 0=x:=by unfold at0;rw[y];rfl
 have D:=F x (List.mem_of_getElem? y);obtain⟨L,q1,q2⟩:=mg D;obtain⟨p,N,rfl,_,q,A⟩:=Jw t h1;have o:w.cell? ⟨p,0,none⟩=some (.int .i64 x):=A 0 x y;have M:(0:Int)<(run.length:Int):=by omega
 have W:=fun (u:World) (K:Below w.heap.size w u)=>Kj x L q1 (by omega) u ((ht.below K).1)
 obtain⟨O,Q,P,rfl⟩:∃ a n c,z=.slice a n c:=by
  rcases s.form with ⟨rfl,_⟩|⟨_,_,rfl,_,_,_,_⟩
  .exact⟨_,_,_,rfl⟩
  .exact⟨_,_,_,rfl⟩
 clear s t F D A ht
 cases ho:du es run with
 | some e =>
  rw[ho]at d;rw[Vv ho];unfold ie elV qn at d;simp only[Option.getD_some,Option.isSome_some]at d;clear ho W;go_enter func180,ntmps180;go_wp2_with fail;refine d.mono ?_;rintro x i ⟨rfl,b⟩;clear d o;go_wp2;go_ret;exact⟨_,rfl,ky [e] rfl rfl (heap_alloc2_new i _ _) (by have:=b.size;omega) (by unfold maxLen;omega),(b.alloc b.size _).alloc (b.alloc b.size _).size _⟩
 | none =>
  rw[ho]at d;rw[Vu ho,H];unfold ie elV qn at d;simp only[Option.getD_none,Option.isSome_none]at d;clear ho;rcases Iw x with m|⟨e,m⟩|⟨e,f,m⟩
  .rw[m]at W ⊢
   unfold wtV at W;have G:∀ (k:Nat) (w:World),(method (k+1) 274 (.agg #[]) "loop.example/g00158/impl.elems").run prog w=.ok (270,.agg #[]) w:=fun _ _=>by kernel_rfl
   clear m;go_enter func180,ntmps180;go_wp2_with fail;refine d.mono ?_;rintro x i ⟨rfl,b⟩;clear d;have g:Below w.heap.size w (i.alloc (.cells #[.int .i64 0,.int .i64 0,.int .i64 0,.bool false] 111)):=b.alloc b.size _;have j:=W _ g;have E:i.cell? ⟨p,0,none⟩=some (.int .i64 _):=(b.cell q).trans o;have C:p<i.heap.size:=Nat.lt_of_lt_of_le q b.size;clear W o;go_wp2_with fail;refine j.mono ?_;rintro x r ⟨rfl,l⟩;have h:=g.trans (l.mono g.size);clear j l g;go_wp2;go_ret;exact⟨_,rfl,⟨rfl,.inl ⟨rfl,rfl⟩⟩,h.alloc h.size _⟩
  .rw[m]at W ⊢
   unfold wtV at W;have G:∀ (k:Nat) (w:World),(method (k+1) 266 (.agg #[.int .i64 e.first,.int .i64 e.second,.int .i64 e.third,.bool e.varies]) "loop.example/g00158/impl.elems").run prog w=.ok (269,.agg #[.int .i64 e.first,.int .i64 e.second,.int .i64 e.third,.bool e.varies]) w:=fun _ _=>by kernel_rfl
   clear m;go_enter func180,ntmps180;go_wp2_with fail;refine d.mono ?_;rintro x i ⟨rfl,b⟩;clear d;have g:Below w.heap.size w (i.alloc (.cells #[.int .i64 0,.int .i64 0,.int .i64 0,.bool false] 111)):=b.alloc b.size _;have j:=W _ g;have E:i.cell? ⟨p,0,none⟩=some (.int .i64 _):=(b.cell q).trans o;have C:p<i.heap.size:=Nat.lt_of_lt_of_le q b.size;clear W o;go_wp2_with fail;refine j.mono ?_;rintro x r ⟨rfl,l⟩;have h:=g.trans (l.mono g.size);clear j l g;go_wp2;go_ret;exact⟨_,rfl,ky [e] rfl rfl (heap_alloc2_new r _ _) (by have:=h.size;omega) (by unfold maxLen;omega),(h.alloc h.size _).alloc (h.alloc h.size _).size _⟩
  .rw[m]at W ⊢
   unfold wtV at W;have G:∀ (k:Nat) (w:World),(method (k+1) 280 (.agg #[.int .i64 e.first,.int .i64 e.second,.int .i64 e.third,.bool e.varies,.int .i64 f.first,.int .i64 f.second,.int .i64 f.third,.bool f.varies]) "loop.example/g00158/impl.elems").run prog w=.ok (271,.agg #[.int .i64 e.first,.int .i64 e.second,.int .i64 e.third,.bool e.varies,.int .i64 f.first,.int .i64 f.second,.int .i64 f.third,.bool f.varies]) w:=fun _ _=>by kernel_rfl
   clear m;go_enter func180,ntmps180;go_wp2_with fail;refine d.mono ?_;rintro x i ⟨rfl,b⟩;clear d;have g:Below w.heap.size w (i.alloc (.cells #[.int .i64 0,.int .i64 0,.int .i64 0,.bool false] 111)):=b.alloc b.size _;have j:=W _ g;have E:i.cell? ⟨p,0,none⟩=some (.int .i64 _):=(b.cell q).trans o;have C:p<i.heap.size:=Nat.lt_of_lt_of_le q b.size;clear W o;go_wp2_with fail;refine j.mono ?_;rintro x r ⟨rfl,l⟩;have h:=g.trans (l.mono g.size);clear j l g;go_wp2;go_ret;exact⟨_,rfl,ky [e,f] rfl rfl (heap_alloc2_new r _ _) (by have:=h.size;omega) (by unfold maxLen;omega),(h.alloc h.size _).alloc (h.alloc h.size _).size _⟩
theorem Ua {w:World} {B a:Nat} {v:Value} {es:List El}(h:aj w a v es) (i:B<=a):aj w B v es:=by
 refine⟨h.1,?_⟩;rcases h.2 with h|⟨g,b,c,d,e,f⟩
 .exact .inl h
 .exact .inr ⟨g,b,c,d,Nat.le_trans i e,f⟩
theorem au3 (x:ByteArray):∀ y ∈ aR x,bz y=true:=by
 unfold aR;split
 .intro y a
  exact Nn (Hm x.size x) y (M9.1 a)
 .intro y a;cases a
def qv (u:World) (b:Nat) (v:Value) (sh:Bool) (lv:Int):Prop:=u.heap[b]? = some (.cells #[v,.bool sh,.int .i64 lv] 56)
theorem qv.below {B b:Nat} {u u':World} {v:Value} {sh:Bool} {lv:Int}(h:qv u b v sh lv) (c:Below B u u') (a:b<B):qv u' b v sh lv:=(c.block b a).trans h
theorem qv.cells {b:Nat} {u:World} {v:Value} {sh:Bool} {lv:Int}(h:qv u b v sh lv):u.cell? ⟨b,0,none⟩=some v/\u.cell? ⟨b,1,none⟩=some (.bool sh)/\u.cell? ⟨b,2,none⟩=some (.int .i64 lv) :=
 ⟨cell_of_row _ _ 0 _ _ _ h,cell_of_row _ _ 1 _ _ _ h,cell_of_row _ _ 2 _ _ _ h⟩
def as9 (w0:World) (es:List Ent) (goal:List El) (v6 v8:Value) (wr:World):Prop :=
 ∃ (g:Nat) (rest:List Int) (done:List El),w0.heap.size<=g/\rest.length<=200/\done.length+2*rest.length<=400/\(∀ x ∈ rest,bz x=true)/\my wr g v6 rest/\aj wr w0.heap.size v8 done/\done++gn es rest=goal/\Below w0.heap.size w0 wr
theorem a26 {u u':World} {B g:Nat} {v:Value} {es:List El} {cs:Array Value}(h:aj u B v es) (j:u.grownBy u' (some g)) (i:u.heap[g]? = some (.cells cs 3)):aj u' B v es:=by
 refine World.ownsRow.kept h j ?_;rcases h.2 with ⟨rfl,_⟩|⟨c,k,l,rfl,_,a,_⟩
 .exact .inl rfl
 .refine .inr fun e=>?_
  have b:c=g:=Option.some.inj e;subst b;rw[i]at a;injection a with d;injection d with _ f;exact absurd f (by decide)
theorem Si {w b:World} {B:Nat} {J v:Value} {es:List Ent} {rs:List Int}(A:Below b.heap.size b w) (I:ac b B J es) (W:es.length<=1048576) (hr:∀ e ∈ es,e.runes.length<=1048576) (ht:fh b) (hI:aa w b.heap.size v rs) (E:rs.length<=200) (D:∀ x ∈ rs,bz x=true) :
  Calls prog 154 #[J,v] w fun e w'=>∃ v',e=.returned v'/\aj w' b.heap.size v' (gn es rs)/\Below b.heap.size b w':=by
 obtain⟨va,vc,rfl⟩:∃ a c,J=.slice a es.length c:=by
  rcases I.form with ⟨rfl,rfl⟩|⟨_,_,rfl,_,_,_,_⟩
  .exact⟨_,_,rfl⟩
  .exact⟨_,_,rfl⟩
 have Q:Hid (as9 b es (gn es rs) v (.slice none 0 0) w):=by
  rcases hI.midI with h|⟨g,f,c,d,h1,h2,r,G,H,h6⟩
  .exact⟨b.heap.size,rs,[],bR,E,by simp;omega,D,.inl h,⟨rfl,.inl ⟨rfl,rfl⟩⟩,rfl,A⟩
  .exact⟨g,rs,[],G,E,by simp;omega,D,.inr ⟨f,c,d,h1,h2,r,H,h6⟩,⟨rfl,.inl ⟨rfl,rfl⟩⟩,rfl,A⟩
 have Y:Hid (ac _ _ _ _):=I;have Z:Hid (fh _):=ht;generalize gn es rs=goal at *;clear E D hI A I ht;go_enter func154,ntmps154;go_wp2_with fail;go_loopw [1,5] (fun v6 v8 wr=>as9 b es goal v6 v8 wr) (fun v6 _ _=>pu v6)
 case atStart=>exact Q.out
 case round =>
  clear Q;obtain⟨g,rest,done,S,am,ai,C,m,s,T,i⟩:=hrel;have al:=m.len;have n:=hZ T;clear T;by_cases h0:rest.length=0
  .have a9:rest=[]:=List.eq_nil_of_length_eq_zero h0
   subst a9;have HF:Hid (done=goal):=by show _=_;rw[<- n.out,Jb,List.append_nil]
   obtain⟨a6,c6,rfl⟩:∃ a c,u1=.slice a 0 c:=by
    rcases m with ⟨a,c,h,_⟩|⟨f,c,d,h,_⟩
    .exact⟨a,c,h⟩
    .exact⟨_,_,h⟩
   have o:Hid (aj _ _ _ _):=s;have a3:Hid _:=i;clear m n s i;go_wp2;go_ret;rw[<- HF.out];exact⟨_,rfl,o.out,a3.out⟩
  .obtain⟨f,c,d,a5,a7,a8,z,R⟩:∃ f c d,u1=.slice (some ⟨g,f,none⟩) rest.length c/\rest.length<=c/\c<=maxLen/\wr.heap[g]? = some (.cells d 3)/\∀ j x,rest[j]? = some x->wr.cell? ⟨g,f+j,none⟩=some (.int .i64 x):=by
    rcases m with ⟨a,c,_,h⟩|h
    .subst h;exact absurd rfl h0
    .exact h
   subst a5;have hk:=qk (es:=es) (l:=rest) (by omega);have TR:=Tu wr b B g f c d (.slice va es.length vc) es rest i Y.out W hr Z.out S (by omega) (by omega) a7 a8 z R;have a0:Hid ((done++kp es (gu es rest).1)++gn es (gu es rest).2=goal):=by
    show _=_
    rw[<- n.out,Gf (es:=es) (l:=rest) (by omega),List.append_assoc]
   have ak:=Dv es (gu es rest).1;obtain⟨k1,k2,k3,k4,k5⟩:=hk;generalize (gu es rest).1=run at *;generalize (gu es rest).2=rest2 at *;have L:=hZ z;have U:∀ x ∈ run,bz x=true:=fun x hx=>C x (k4 x hx)
   have V:∀ x ∈ rest2,bz x=true:=fun x hx=>C x (k5 x hx)
   have a1:=hZ V;have M:=hZ U;have o:Hid (aj _ _ _ _):=s;have ae:=i.size;have ah:(0:Int)<(rest.length:Int):=by omega
   clear z R m n C U V s k3 k4 k5 i;go_wp2_with fail;refine TR.mono ?_;rintro e w3 ⟨vr,vq,rfl,ir,mq,k,g3⟩;clear TR;have K:Hid (aj w3 b.heap.size u5 done):=a26 o.out g3 L.out;have X:=Sh (Y.out.below k) W hr (Z.out.below k) ir k2 M.out;have ab:=k.size;have P:Hid (my _ _ _ _):=mq;have t:Hid _:=k;clear o g3 L ir mq k M;go_wp2_with fail;refine X.mono ?_;rintro e w4 ⟨v4,rfl,e4,p⟩;clear X;have y:Below b.heap.size b w4:=t.out.trans (p.mono t.out.size);have q:aj w4 b.heap.size u5 done:=K.out.below p;have m4:my w4 g vq rest2:=P.out.below p;have N:Hid (my _ _ _ _):=m4;have u:Hid (Below _ _ _):=y;have ad:=y.size;clear K P t p y m4;go_wp2_with (at_builtin;refine C4 rfl _ _ rfl b.heap.size _ u5 v4 done (kp es run) rfl rfl q e4 (by omega) (by omega) ?_)
   intro v5 w5 e5 F;have O:Hid (my w5 g vq rest2):=by
    rcases N.out with h|⟨f,c,d,q1,q2,q3,q4,q5⟩
    .exact .inl h
    .refine my.kept (.inr ⟨f,c,d,q1,q2,q3,q4,q5⟩) F fun c=>?_
     rcases q.2 with ⟨rfl,_⟩|⟨g',af,ag,rfl,_,r,_⟩
     .cases c
     .have e2:g=g':=Option.some.inj c
      subst e2;rw[q4]at r;injection r with G;injection G with _ H;exact absurd H (by decide)
   have a2:Hid (Below b.heap.size b w5):=Below.grown u.out F u.out.size (fun j hj=>(World.ownsRow.lt q j hj).1);have a4:Hid (aj _ _ _ _):=e5;clear e5 F q e4 N u;go_wp2;refine⟨⟨g,rest2,done++kp es run,S,by omega,by rw[List.length_append];omega,a1.out,O.out,a4.out,a0.out,a2.out⟩,?_⟩;have:=O.out.len;show pu _<pu _
   rw[this];show _<rest.length
   omega
theorem Jt {w:World} {B:Nat} {C:Value} {es:List Ent} {sh:Bool} {lv:Int}(x:ByteArray) (Q:x.size<=1048576) (A:ac w B C es) (I:∀ e ∈ es,e.runes.length<=1048576) (ht:fh w) :
  Calls prog 136 #[.agg #[C,.bool sh,.int .i64 lv],.string x] w fun e w'=>∃ v',e=.returned (.tuple #[v',.bool (okE es lv x)])/\aj w' w.heap.size v' (ko es lv x)/\Below w.heap.size w w':=by
 obtain⟨g,h,rfl⟩:∃ a c,C=.slice a es.length c:=by
  rcases A.form with ⟨rfl,rfl⟩|⟨_,_,rfl,_,_,_,_⟩
  .exact⟨_,_,rfl⟩
  .exact⟨_,_,rfl⟩
 have d:Below w.heap.size w (w.alloc (.cells #[.slice g es.length h,.bool sh,.int .i64 lv] 56)):=bY _;have j:qv (w.alloc (.cells #[.slice g es.length h,.bool sh,.int .i64 lv] 56)) w.heap.size (.slice g es.length h) sh lv:=heap_alloc_new w _;have f:=Ir x Q (w.alloc (.cells #[.slice g es.length h,.bool sh,.int .i64 lv] 56)) (ht.below d);have F:=Zg x;have E:=au3 x;unfold ko okE;have v:Hid (ac _ _ _ _):=A.below d;have y:Hid (fh _):=ht.below d;clear A ht
 cases hok:ok4 x
 .rw[hok]at f
  rw[Bool.false_and,if_neg (by simp)];clear hok;go_enter func136,ntmps136;go_wp2_with fail;refine f.mono ?_;rintro e D ⟨K,rfl,r,b⟩;clear f;go_wp2;go_ret2;exact⟨_,rfl,⟨rfl,.inl ⟨rfl,rfl⟩⟩,d.trans (b.mono d.size)⟩
 .have t:aR x=rn4 x:=by unfold aR;rw[hok];rfl
  rw[hok,t]at f;rw[t]at F E;rw[Bool.true_and];clear hok t;generalize rn4 x=rs at *;have i:=fun (u:World) (J:Below (w.alloc (.cells #[.slice g es.length h,.bool sh,.int .i64 lv] 56)).heap.size (w.alloc (.cells #[.slice g es.length h,.bool sh,.int .i64 lv] 56)) u)=>xb (sh:=sh) (lv:=lv) (v.out.below J) I (y.out.below J)
  have n:w.heap.size<(w.alloc (.cells #[.slice g es.length h,.bool sh,.int .i64 lv] 56)).heap.size:=by simp
  cases hro:bd es lv
  .rw[hro]at i
   rw[if_neg (by simp)];clear hro;go_enter func136,ntmps136;go_wp2_with fail;refine f.mono ?_;rintro e D ⟨K,rfl,r,b⟩;have k:=i _ b;obtain⟨o,p,q⟩:=(j.below b n).cells;have O:=b.size;clear f i j;go_wp2_with fail;refine k.mono ?_;rintro e L ⟨rfl,l⟩;clear k;have z:=d.trans ((b.trans (l.mono b.size)).mono d.size);go_wp2;go_ret2;exact⟨_,rfl,⟨rfl,.inl ⟨rfl,rfl⟩⟩,z⟩
  .rw[hro]at i
   rw[if_pos rfl];have N:es.length<=1048576:=by have:=(of_decide_eq_true (show decide _=true from hro)).1;omega
   clear hro;obtain⟨M,s⟩:∃ M,Hid (M=w.alloc (.cells #[.slice g es.length h,.bool sh,.int .i64 lv] 56)):=⟨_,rfl⟩
   have G:=s.out;rw[<- G]at d j v y n f i;clear G;go_enter func136,ntmps136;go_wp2_with fail;rw[<- s.out];refine f.mono ?_;rintro e D ⟨K,rfl,r,b⟩;have k:=i _ b;obtain⟨o,p,q⟩:=(j.below b n).cells;have O:=b.size;have R:w.heap.size<D.heap.size:=by omega
   clear f i s;go_wp2_with fail;refine k.mono ?_;rintro e L ⟨rfl,l⟩;have m:=b.trans (l.mono b.size);have H:=Si m v.out N I y.out (r.below l) F E;clear k o p q;obtain⟨o,p,q⟩:=(j.below m n).cells;have T:=m.size;have S:w.heap.size<L.heap.size:=by omega
   clear r b l m;go_wp2_with fail;refine H.mono ?_;rintro e V ⟨U,rfl,P,z⟩;clear H o p q;go_wp2;go_ret2;exact⟨_,rfl,Ua P d.size,d.trans (z.mono d.size)⟩
theorem Sc (sh:Bool):ed sh []=[]:=rfl
theorem Sr (sh:Bool):ew sh []=[]:=rfl
def Ag (u:World) (b:Nat) (v v':Value):Prop:=u.heap[b]? = some (.cells #[v,v'] 170)
theorem Ag.below {B b:Nat} {u u':World} {v v':Value}(h:Ag u b v v') (c:Below B u u') (a:b<B):Ag u' b v v':=(c.block b a).trans h
theorem Ag.cells {b:Nat} {u:World} {v v':Value}(h:Ag u b v v'):u.cell? ⟨b,0,none⟩=some v/\u.cell? ⟨b,1,none⟩=some v'/\∀ j,u.frozen? ⟨b,j,none⟩=false :=
 ⟨cell_of_row _ _ 0 _ _ _ h,cell_of_row _ _ 1 _ _ _ h,fun j=>by unfold Ag at h;simp[World.frozen?,h]⟩
theorem Hn {w:World} {B:Nat} {v:Value} {es:List El}(h:aj w B v es):∃ a c,v=.slice a es.length c:=by
 obtain⟨a,c,h,_⟩:=wa h;exact⟨a,c,h⟩
theorem zx {w:World} {B:Nat} {v:Value} {l:List Int}(h:aa w B v l):∃ a c,v=.slice a l.length c:=by
 obtain⟨a,c,h,_⟩:=tc h;exact⟨a,c,h⟩
theorem ai4 {w:World} {B b:Nat} {v x y:Value} {es:List El}(h:aj w B v es) (a:b<B):aj ((w.setCell ⟨b,0,none⟩ x).setCell ⟨b,1,none⟩ y) B v es :=
 World.ownsRow.kept (World.ownsRow.kept h (au w b 0 x) (by
  cases e:v.ownBlock with
  | none=>exact .inl rfl
  | some g=>exact .inr fun c=>by have:=(World.ownsRow.lt h g e).1;cases c;omega)) (au _ b 1 y) (by
  cases e:v.ownBlock with
  | none=>exact .inl rfl
  | some g=>exact .inr fun c=>by have:=(World.ownsRow.lt h g e).1;cases c;omega)
theorem a66 {w:World} {B b:Nat} {v x y:Value} {l:List Int}(h:aa w B v l) (a:b<B):aa ((w.setCell ⟨b,0,none⟩ x).setCell ⟨b,1,none⟩ y) B v l :=
 World.ownsRow.kept (World.ownsRow.kept h (au w b 0 x) (by
  cases e:v.ownBlock with
  | none=>exact .inl rfl
  | some g=>exact .inr fun c=>by have:=(World.ownsRow.lt h g e).1;cases c;omega)) (au _ b 1 y) (by
  cases e:v.ownBlock with
  | none=>exact .inl rfl
  | some g=>exact .inr fun c=>by have:=(World.ownsRow.lt h g e).1;cases c;omega)
theorem Iz {w u:World} {b B:Nat} {x y:Value}(h:Below B w u) (a:B<=b):Below B w ((u.setCell ⟨b,0,none⟩ x).setCell ⟨b,1,none⟩ y):=(h.setCell a _).setCell a _
theorem a07 {w:World} {B:Nat} {t:Value} {es:List Ent} {sh:Bool} {lv:Int}(x:ByteArray) (I:x.size<=1048576) (r:ac w B t es) (H:∀ e ∈ es,e.runes.length<=1048576) (ht:fh w) :
  Calls prog 107 #[.agg #[t,.bool sh,.int .i64 lv],.string x] w fun e w'=>∃ v v',e=.returned (.tuple #[.agg #[v,v'],.bool (okE es lv x)])/\aj w' w.heap.size v (ed sh (ko es lv x))/\aa w' w.heap.size v' (ew sh (ko es lv x))/\Below w.heap.size w w':=by
 obtain⟨g,h,rfl⟩:∃ a c,t=.slice a es.length c:=by
  rcases r.form with ⟨rfl,rfl⟩|⟨_,_,rfl,_,_,_,_⟩
  .exact⟨_,_,rfl⟩
  .exact⟨_,_,rfl⟩
 have k:Below w.heap.size w ((w.alloc (.cells #[.slice g es.length h,.bool sh,.int .i64 lv] 56)).alloc (.cells #[.slice none 0 0,.slice none 0 0] 170)):=(bY _).alloc (by simp) _;have C:qv ((w.alloc (.cells #[.slice g es.length h,.bool sh,.int .i64 lv] 56)).alloc (.cells #[.slice none 0 0,.slice none 0 0] 170)) w.heap.size (.slice g es.length h) sh lv:=by
  unfold qv;rw[Below.heap_alloc _ _ _ (by simp)];exact heap_alloc_new w _
 have A:Ag ((w.alloc (.cells #[.slice g es.length h,.bool sh,.int .i64 lv] 56)).alloc (.cells #[.slice none 0 0,.slice none 0 0] 170)) (w.heap.size+1) (.slice none 0 0) (.slice none 0 0):=heap_alloc2_new w _ _;have E:((w.alloc (.cells #[.slice g es.length h,.bool sh,.int .i64 lv] 56)).alloc (.cells #[.slice none 0 0,.slice none 0 0] 170)).heap.size=w.heap.size+1+1:=by simp
 have f:=Jt (sh:=sh) (lv:=lv) x I (r.below k) H (ht.below k);have N:=Ol es lv x;have n:Hid (_=_):=E;have K:Hid (qv _ _ _ _ _):=C;have y:Hid (Ag _ _ _ _):=A;have j:Hid _:=k;clear r ht H I E C A k
 cases hok:okE es lv x
 .rw[hok]at f
  have D:ko es lv x=[]:=by unfold ko;rw[hok];rfl
  rw[D,Sc,Sr];clear hok D N;go_enter func107,ntmps107;go_wp2_with fail;refine f.mono ?_;rintro e u ⟨Y,rfl,m,b⟩;have d:=y.out.below b (by rw[n.out];omega);obtain⟨Q,R,S⟩:=d.cells;have l:w.heap.size+1<u.heap.size:=(Array.getElem?_eq_some_iff.1 d).1;have i:Hid _:=j.out.trans (b.mono j.out.size);clear f m b d;go_wp2;refine bodyPost_ret (v:=.tuple #[.agg #[.slice none 0 0,.slice none 0 0],.bool false]) ?_ rfl ⟨_,_,rfl,⟨rfl,.inl ⟨rfl,rfl⟩⟩,⟨rfl,.inl ⟨rfl,rfl⟩⟩,Iz i.out (by omega)⟩;rw[results_cell_tmp rfl];go_simp
 .rw[hok]at f
  clear hok;generalize ko es lv x=el at *;go_enter func107,ntmps107;go_wp2_with fail;refine f.mono ?_;rintro e u ⟨Y,rfl,m,b⟩;have F:=K.out.below b (by rw[n.out];omega);have d:=y.out.below b (by rw[n.out];omega);obtain⟨V,W,X⟩:=F.cells;have l:w.heap.size+1<u.heap.size:=(Array.getElem?_eq_some_iff.1 d).1;have i:Hid _:=j.out.trans (b.mono j.out.size);have G:=My sh (by omega) m;have z:Hid (Ag _ _ _ _):=d;clear f m b d F;go_wp2_with fail;refine G.mono ?_;rintro e Z ⟨v2,v3,rfl,s,q,p⟩;have o:=z.out.below p l;obtain⟨Q,R,S⟩:=o.cells;have a0:w.heap.size+1<Z.heap.size:=(Array.getElem?_eq_some_iff.1 o).1;have J:Hid _:=i.out.trans (p.mono i.out.size);have M:Hid (aa _ _ _ _):=s;have L:Hid (aj _ _ _ _):=q;obtain⟨P,U,rfl⟩:=Hn q;obtain⟨O,T,rfl⟩:=zx s
  clear G V W X p o s q z;go_wp2;refine bodyPost_ret (v:=.tuple #[.agg #[.slice P (ed sh el).length U,.slice O (ew sh el).length T],.bool true]) ?_ rfl ⟨_,_,rfl,Ua (ai4 L.out l) (by omega),z8 (a66 M.out l) (by omega),Iz J.out (by omega)⟩;rw[results_cell_tmp rfl];go_simp
theorem Rk {w:World} {B g:Nat} {d f:Value} {xs:List El} {fs:List Int}(lv:Nat) (h1:1<=lv) (h:lv<=4) (a:aj w B d xs) (b:aa w g f fs) (c:fs.length=xs.length) (hn:xs.length<=1048576) :
  Calls prog 108 #[.agg #[d,f],.int .i64 lv] w fun e w'=>∃ v,e=.returned v/\aa w' w.heap.size v (wts lv xs fs)/\Below w.heap.size w w':=by
 obtain rfl|rfl|rfl|rfl:lv=1\/lv=2\/lv=3\/lv=4:=by omega
 .exact Rg a b c hn
 .exact Rh a b c hn
 .exact Ri a b c hn
 .exact Rj a b c hn
def bc0 (W:World) (xs:List El) (fs:List Int) (n:Nat) (v8 v9:Value) (wr:World):Prop :=
 ∃ l:Nat,l<=n/\v9=.int .i64 ((l:Int)+1)/\Bys wr W.heap.size v8 (lj xs fs l)/\Below W.heap.size W wr
def bb9 (W:World) (B:Nat) (v33:Value) (pre ws:List Int) (v8 i:Value) (wr:World):Prop :=
 ∃ k:Nat,k<=ws.length/\i=.int .i64 k/\Bys wr W.heap.size v8 (pre++jw (ws.take k))/\aa wr B v33 ws/\Below W.heap.size W wr
theorem ar8 {a:List Int} {k:Nat} {x:Int}(h:a[k]? = some x) (b:List Int):b++jw (a.take (k+1))=(b++jw (a.take k))++[x / 256,x % 256]:=by
 rw[List.take_add_one,h,Lj,List.append_assoc];simp[Ll]
theorem b28 {lv:Nat} {es:List El} {sh:Bool}(h:∀ e ∈ es,mh e):∀ n ∈ wts lv (ed sh es) (ew sh es),1<=n/\n<=65535 :=
 Rn (sd h _).2 (sd h _).1 _
theorem az0 {es:List Ent} {sh:Bool} {lv:Int} {x:ByteArray}(h:okE es lv x=true):Cs es sh lv x=jt (lj (ed sh (ko es lv x)) (ew sh (ko es lv x)) lv.toNat):=by
 unfold Cs ko;rw[if_pos h,if_pos h];rfl
theorem ai0 {es:List Ent} {lv:Int} {x:ByteArray}:∀ e ∈ ko es lv x,mh e:=by
 unfold ko;split
 .rename_i h
  exact Jc (Eo h).2.2 (Uq x)
 .intro e a;cases a
theorem Gr {w:World} {B:Nat} {ve:Value} {es:List Ent} {sh:Bool} {lv:Int}(x:ByteArray) (hx:x.size<=1048576) (hE:ac w B ve es) (hr:∀ e ∈ es,e.runes.length<=1048576) (ht:fh w) :
  Calls prog 60 #[.agg #[ve,.bool sh,.int .i64 lv],.string x] w fun e w'=>e=.returned (.tuple #[.string (Cs es sh lv x),.bool (okE es lv x)])/\Below w.heap.size w w':=by
 obtain⟨G,H,rfl⟩:∃ a c,ve=.slice a es.length c:=by
  rcases hE.form with ⟨rfl,rfl⟩|⟨_,_,rfl,_,_,_,_⟩
  .exact⟨_,_,rfl⟩
  .exact⟨_,_,rfl⟩
 obtain⟨i0,hi0,ax,av,aw⟩:=info_parts Ug;have K:Below w.heap.size w (w.alloc (.cells #[.slice G es.length H,.bool sh,.int .i64 lv] 56)):=bY _;have a0:qv (w.alloc (.cells #[.slice G es.length H,.bool sh,.int .i64 lv] 56)) w.heap.size (.slice G es.length H) sh lv:=heap_alloc_new w _;have C:=a07 (sh:=sh) (lv:=lv) x hx (hE.below K) hr (ht.below K);have a4:=Ol es lv x;have aK:=Ge sh (ko es lv x);have aL:=Gm sh (ko es lv x);have ao:(ew sh (ko es lv x)).length=(ed sh (ko es lv x)).length:=by omega
 have an:(ed sh (ko es lv x)).length<=400:=by omega
 have o:Hid _:=K;have I:Hid (qv _ _ _ _ _):=a0;have ae:Hid (_=_):=ao;clear hE ht hr hx a4 aK aL ao K a0
 cases hok:okE es lv x
 .rw[hok]at C
  have aq:Cs es sh lv x=⟨#[]⟩:=by unfold Cs;rw[hok];rfl
  rw[aq];clear hok aq ae an I;go_enter func60,ntmps60;go_wp2_with fail;refine C.mono ?_;rintro e f ⟨v1,v2,rfl,v,z,m⟩;obtain⟨p,r,rfl⟩:=Hn v;obtain⟨q,s,rfl⟩:=zx z;have a9:Hid _:=o.out.trans (m.mono o.out.size);clear C z v m;go_wp2;go_ret2;exact⟨rfl,a9.out.alloc a9.out.size _⟩
 .rw[hok]at C
  obtain⟨_,aV,aW⟩:=xe (Eo hok).2.2;obtain⟨n,rfl⟩:∃ n:Nat,lv=(n:Int):=⟨lv.toNat,by omega⟩
  rw[az0 hok,Int.toNat_natCast];have E:=fun l=>b28 (lv:=l) (sh:=sh) (ai0 (es:=es) (lv:=(n:Int)) (x:=x))
  have aE:=hZ E;have a8:=fun l=>rm l (ed sh (ko es n x)) (ew sh (ko es n x)) (ed sh (ko es n x)).length
  have D:=fun l=>Pl (ed sh (ko es n x)) (ew sh (ko es n x)) l
  clear hok E;generalize ed sh (ko es n x)=xs at *;generalize ew sh (ko es n x)=fs at *;have aG:Hid (∀ l,(wts l xs fs).length<=400):=fun l=>Nat.le_trans (a8 l) an
  have aB:Hid (∀ l,l<=4->(lj xs fs l).length<=3208):=fun l hl=>Nat.le_trans (D l) (Nat.le_trans (Nat.mul_le_mul hl (show 2+2*xs.length<=802 by omega)) (by omega))
  clear a8 D;obtain⟨W0,J⟩:∃ W0,Hid (W0=w.alloc (.cells #[.slice G es.length H,.bool sh,.int .i64 n] 56)):=⟨_,rfl⟩
  have a7:w.heap.size<W0.heap.size:=by rw[J.out];simp
  rw[<- J.out]at o I C;go_enter func60,ntmps60;go_wp2_with fail;rw[<- J.out];refine C.mono ?_;rintro e f ⟨v1,v2,rfl,v,z,m⟩;obtain⟨p,r,rfl⟩:=Hn v;obtain⟨q,s,rfl⟩:=zx z;have A:Below f.heap.size f (f.alloc (.cells #[.slice p xs.length r,.slice q fs.length s] 170)):=bY _;have ad:Hid (aj _ _ _ _):=v.below A;have af:Hid (aa _ _ _ _):=z.below A;have T:Hid (Ag (f.alloc (.cells #[.slice p xs.length r,.slice q fs.length s] 170)) f.heap.size (.slice p xs.length r) (.slice q fs.length s)):=heap_alloc_new f _;have U:Hid (qv (f.alloc (.cells #[.slice p xs.length r,.slice q fs.length s] 170)) w.heap.size (.slice G es.length H) sh n):=(I.out.below m a7).below A (by have:=m.size;omega)
  have S:Hid (Below w.heap.size w (f.alloc (.cells #[.slice p xs.length r,.slice q fs.length s] 170))):=(o.out.trans (m.mono o.out.size)).trans (A.mono (o.out.trans (m.mono o.out.size)).size);have b0:w.heap.size<f.heap.size:=by have:=m.size;omega
  clear C z v m A I o J;obtain⟨W,L⟩:∃ W,Hid (W=f.alloc (.cells #[.slice p xs.length r,.slice q fs.length s] 170)):=⟨_,rfl⟩
  have am:f.heap.size<W.heap.size:=by rw[L.out];simp
  rw[<- L.out]at ad af T U S;go_wp2_with fail;rw[<- L.out];go_loopw [8,9] (fun v8 v9 wr=>bc0 W xs fs n v8 v9 wr) (fun _ v9 _=>n+1-(intOf v9).toNat)
  case atStart=>exact⟨0,by omega,rfl,World.ownsRow_nil _ _ _ _,bX⟩
  case round =>
   clear L;obtain⟨l,hl,rfl,d,b⟩:=hrel;obtain⟨M,N,c2⟩:=(U.out.below b (by omega)).cells;have Y:=T.out.below b am;obtain⟨O,P,_⟩:=Y.cells;have D:=aB.out l (by omega);have aZ:=b.size;by_cases aX:l<n
   .have aN:(l:Int)+1<=(n:Int):=by omega
    have HK:Hid (Bys _ _ _ _):=d;have t:Hid _:=b;clear d b;go_upto_if 27 with fail
    go_cut [8] from 20 to 47 (fun v8 wx=>Bys wx W.heap.size v8 (lj xs fs l++nh (l+1))/\Below W.heap.size W wx)
    case first =>
     by_cases h0:l=0
     .subst h0
      go_wp2;go_meet
      case rel=>exact⟨by simpa [nh] using HK.out,t.out⟩
     .have aT:(1:Int)<(l:Int)+1:=by omega
      have hs:nh (l+1)=[0,0]:=by unfold nh;rw[if_pos (by omega)]
      have HS:Hid _:=hs;have d:=HK.out;unfold Bys at d;clear hs;go_wp2_with (at_builtin;refine wpList_append_own _ rfl _ _ 22 rfl W.heap.size 5 i0 (.int .u8 0) 1 1 underlying22 hi0 ax av aw rfl (by decide) _ _ _ rfl (d.alloc _) ⟨wr.heap.size,0,none⟩ 2 2 [.int .u8 0,.int .u8 0] rfl rfl (zr _ _ _ _ _ (by simp)) (fun u hu=>by simp at hu;subst hu;rfl) (by unfold maxLen;omega) (by omega) (by simp;omega) ?_)
      intro v4 w4 ar ap _;have ak:Bys w4 W.heap.size v4 (lj xs fs l++[0,0]):=Bys.app2 ar;have aH:Below W.heap.size W w4:=Below.grown (t.out.alloc t.out.size _) ap (t.out.alloc t.out.size _).size (fun j hj=>(World.ownsRow.lt d j hj).1);have ay:Hid (Bys _ _ _ _):=ak;clear ar ap d ak;go_wp2;go_meet
      case rel=>exact⟨by rw[HS.out];exact ay.out,aH⟩
    case rest =>
     obtain⟨d,b⟩:=hcut;clear HK t M N c2 O P Y;obtain⟨M,N,c2⟩:=(U.out.below b (by omega)).cells;obtain⟨O,P,_⟩:=(T.out.below b am).cells;have aO:=b.size;have aQ:f.heap.size<wc.heap.size:=by omega
     have WT:=Rk (l+1) (by omega) (by omega) (ad.out.below b) (af.out.below b) ae.out (by omega);have a8:=aG.out (l+1);have aY:(lj xs fs l++nh (l+1)).length<=3210:=by
      have:(nh (l+1)).length<=2:=by unfold nh;split <;> simp
      rw[List.length_append];omega
     have aD:Hid (lj xs fs (l+1)=(lj xs fs l++nh (l+1))++jw (wts (l+1) xs fs)):=by show _=_;rw[lj,List.append_assoc]
     have E:=aE.out (l+1);have ah:Hid (Bys _ _ _ _):=d;have V:Hid _:=b;generalize lj xs fs l++nh (l+1)=pre at *;generalize wts (l+1) xs fs=ws at *;have aF:=hZ E;clear d b E;rw[Int.natCast_add]at WT;go_wp2_with fail;refine WT.mono ?_;rintro e w5 ⟨v5,rfl,i5,b5⟩;obtain⟨a5,k5,rfl⟩:=zx i5;have ai:Hid (Bys _ _ _ _):=ah.out.below b5;have ab:Hid _:=V.out.trans (b5.mono V.out.size);have ag:Hid (aa _ _ _ _):=i5;clear WT i5 b5 ah V M N c2 O P;go_wp2_with fail;go_loopw [8,35] (fun v8 i wr=>bb9 W wc.heap.size (.slice a5 ws.length k5) pre ws v8 i wr) (fun _ i _=>ws.length-(intOf i).toNat)
     case atStart=>exact⟨0,Nat.zero_le _,rfl,by rw[List.take_zero,Lk,List.append_nil];exact ai.out,ag.out,ab.out⟩
     case round =>
      clear ai ag ab;obtain⟨k,hk,rfl,d,F,b⟩:=hrel;by_cases a6:k<ws.length
      .obtain⟨y,R⟩:∃ y,ws[k]? = some y:=⟨_,List.getElem?_eq_getElem a6⟩
       have aR:=aF.out y (List.mem_of_getElem? R);have HT:Hid _:=ar8 R pre;obtain⟨Q,rfl,c5⟩:∃ Q,a5=some ⟨Q,0,none⟩/\wr.cell? ⟨Q,k,none⟩=some (.int .i64 y):=by
        rcases F.form with ⟨_,h2⟩|⟨g,aS,h,_,_⟩
        .subst h2;simp at a6
        .injection h with h1 _ h3
         subst h1;subst h3;refine⟨g,rfl,?_⟩;have:=F.cell k a6;rw[R]at this;exact this
       have aU:(k:Int)<(ws.length:Int):=by omega
       obtain⟨b2,b3⟩:=aR;have aJ:(pre++jw (ws.take k)).length<=4100:=by rw[List.length_append,Dq,List.length_take];omega
       have aP:=b.size;have HI:Hid (aa _ _ _ _):=F;obtain⟨X,a3⟩:∃ X,Hid (pre++jw (ws.take k)=X):=⟨_,rfl⟩
       rw[a3.out]at d HT aJ;unfold Bys at d;clear R F;go_wp2_with (at_builtin;refine wpList_append_own _ rfl _ _ 22 rfl W.heap.size 5 i0 (.int .u8 0) 1 1 underlying22 hi0 ax av aw rfl (by decide) _ _ _ rfl (d.alloc _) ⟨wr.heap.size,0,none⟩ 2 2 [.int .u8 (y / 256),.int .u8 (y % 256)] rfl rfl (zr _ _ _ _ _ (by simp)) (fun u hu=>by simp at hu;rcases hu with rfl|rfl <;> rfl) (by unfold maxLen;omega) (by omega) (by simp;omega) ?_)
       intro v6 w6 au Z _;have al:Bys w6 W.heap.size v6 (X++[y / 256,y % 256]):=Bys.app2 au;have aI:Below W.heap.size W w6:=Below.grown (b.alloc b.size _) Z (b.alloc b.size _).size (fun j hj=>(World.ownsRow.lt d j hj).1);have aC:Hid (aa w6 wc.heap.size (.slice (some ⟨Q,0,none⟩) ws.length k5) ws):=World.ownsRow.kept (World.ownsRow.alloc HI.out _) Z (dq HI.out d (by decide));have az:Hid (Bys _ _ _ _):=al;clear au Z d al HI c5 b;go_wp2;exact⟨⟨k+1,by omega,by go_num,by rw[HT.out];exact az.out,aC.out,aI⟩,by simp[intOf];omega⟩
      .have D:k=ws.length:=by omega
       subst D;have aA:Hid (Bys wr W.heap.size u8 (lj xs fs (l+1))):=by show Bys _ _ _ _;rw[aD.out];rw[List.take_length]at d;exact d
       clear d F;go_wp2;go_roundw
       case rel=>exact⟨l+1,by omega,by go_num,aA.out,b⟩
       case measure=>simp[intOf];omega
   .have aM:l=n:=by omega
    subst aM;have CV:=yp d;clear d M N O P Y;go_wp2;go_ret2;exact⟨rfl,S.out.trans (b.mono S.out.size)⟩
end Go.Proofs.YtjbmgghehdemdaaGreatDoor
