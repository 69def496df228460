/- ITake2 -/
import Derived.Test.YtjbmgghehdemdaaGreatDoorMT14
import Derived.Deep.RegionWith
import Derived.Deep.Upon
import Derived.Test.YtjbmgghehdemdaaGreatDoorMT15
namespace Go.Proofs.YtjbmgghehdemdaaGreatDoor
set_option maxRecDepth 100000
set_option maxHeartbeats 16000000
open _root_.Go.Proofs.Tryz
open Go.RowKit
def md (w:World) (g:Nat) (v:Value) (l:List Int):Prop :=
 (∃ a c,v=.slice a 0 c∧l=[])∨∃ f c cs,v=.slice (some ⟨g,f,none⟩) l.length c∧l.length≤c∧c≤maxLen∧w.heap[g]? = some (.cells cs 3)∧∀ j x,l[j]? = some x→w.cell? ⟨g,f+j,none⟩=some (.int .i64 x)
def ou:Value→Nat
 | .slice _ n _=>n
 | _=>0
theorem md.len {w:World} {g:Nat} {v:Value} {l:List Int}(h:md w g v l):ou v=l.length:=by
 rcases h with ⟨a,c,rfl,rfl⟩|⟨f,c,cs,rfl,_⟩ <;> rfl
theorem md.below {w w':World} {g:Nat} {v:Value} {l:List Int}(h:md w g v l) (hb:Below w.heap.size w w'):md w' g v l:=by
 rcases h with h|⟨f,c,cs,h1,h2,h3,h4,h5⟩
 .exact .inl h
 .have hg:=(Array.getElem?_eq_some_iff.1 h4).1
  exact .inr ⟨f,c,cs,h1,h2,h3,(hb.block g hg).trans h4,fun j x hx=>(hb.cell hg).trans (h5 j x hx)⟩
theorem md.kept {w w':World} {g:Nat} {v:Value} {l:List Int} {row:Option Nat}(h:md w g v l) (hg:w.grownBy w' row) (a1:some g≠row):md w' g v l:=by
 rcases h with h|⟨f,c,cs,h1,h2,h3,h4,h5⟩
 .exact .inl h
 .have a0:=(Array.getElem?_eq_some_iff.1 h4).1
  exact .inr ⟨f,c,cs,h1,h2,h3,(hg.block g a0 a1).trans h4,fun j x hx=>(World.cell?_of_block (hg.block g a0 a1)).trans (h5 j x hx)⟩
theorem A0 {T:TypeId}(g:Nat):∀ (vs:List Value) (f:Nat) (w:World) (cs:Array Value),w.heap[g]? = some (.cells cs T)→∃ cs',(w.setCells g f vs).heap[g]? = some (.cells cs' T)
 | [],_,_,cs,h=>⟨cs,h⟩
 | v::vs,f,w,cs,h=>by
  rw[World.setCells];exact A0 g vs (f+1) _ _ (heap_setCell_same w g f cs T v h)
theorem Bp (g:Nat):∀ (vs:List Value) (f:Nat) (w:World),(w.setCells g f vs).heap.size=w.heap.size
 | [],_,_=>rfl
 | v::vs,f,w=>by
  rw[World.setCells,Bp g vs (f+1)];simp[World.setCell]
theorem Bq (g:Nat):∀ (vs:List Value) (f:Nat) (w:World),(w.setCells g f vs).tape=w.tape
 | [],_,_=>rfl
 | v::vs,f,w=>by
  rw[World.setCells,Bq g vs (f+1)];rfl
theorem so (w:World) (q g f:Nat) (vs:List Value):w.grownBy ((w.drewN q).setCells g f vs) (some g) :=
 ⟨World.os_setCells _ g f vs,Bq g vs f _,World.output_setCells _ g f vs,by rw[Bp];exact bR,fun k hk hne=>World.heap_setCells_other _ g f vs hk (fun e=>hne (by rw[e]))⟩
theorem ad0 {w:World} {g f c q k:Nat} {cs:Array Value} {l:List Int}(hk:k<l.length) (h2:l.length≤c) (h3:c≤maxLen) (h4:w.heap[g]? = some (.cells cs 3)) (h5:∀ j x,l[j]? = some x→w.cell? ⟨g,f+j,none⟩=some (.int .i64 x)) :
  md ((w.drewN q).setCells g f ((l.eraseIdx k++[0]).map (Value.int .i64))) g (.slice (some ⟨g,f,none⟩) (l.eraseIdx k).length c) (l.eraseIdx k):=by
 have a2:(w.drewN q).heap[g]? = some (.cells cs 3):=h4;obtain⟨a1,a3⟩:=A0 g ((l.eraseIdx k++[0]).map (Value.int .i64)) f (w.drewN q) cs a2;have a0:=List.length_eraseIdx_of_lt hk;refine .inr ⟨f,c,a1,rfl,by omega,h3,a3,fun j x hx=>?_⟩;have a5:(w.drewN q).there g f ((l.eraseIdx k++[0]).map (Value.int .i64)).length:=fun j hj=>by
  have a4:j<l.length:=by simp[a0]at hj;omega
  refine⟨?_,by simp[World.frozen?,h4]⟩;have:=h5 j l[j] (List.getElem?_eq_getElem a4);show (w.cell? ⟨g,f+j,none⟩).isSome=true
  rw[this];rfl
 have hj:j<(l.eraseIdx k).length:=(List.getElem?_eq_some_iff.1 hx).1;refine World.rangeAt_setCells_same _ g f _ a5 j (.int .i64 x) ?_;rw[List.getElem?_map,List.getElem?_append_left hj,hx];rfl
theorem U1 (w:World) (n:Nat) (x:Value) (t:TypeId) (hn:n=w.heap.size):∀ j u,[x][j]? = some u→(w.alloc (.cells #[x] t)).cell? ((⟨n,0,none⟩:Addr).add j)=some u:=by
 subst hn;intro j u hj;match j,hj with
 | 0,hj=>simp at hj;subst hj;simp[Addr.add]
def Tq (w w0:World) (es:List Ent) (g N:Nat) (goal:List Int × List Int) (v7 v8:Value) (wr:World):Prop :=
 ∃ run rest,1≤run.length∧run.length+rest.length=N∧ab wr w.heap.size v7 run∧md wr g v8 rest∧mf es run rest=goal∧Below w0.heap.size w0 wr∧w.grownBy wr (some g)
theorem a00 {w:World} {g f c n:Nat} {cs:Array Value} {l:List Int}(hn:n≤l.length) (h2:l.length≤c) (h3:c≤maxLen) (h4:w.heap[g]? = some (.cells cs 3)) (h5:∀ j x,l[j]? = some x→w.cell? ⟨g,f+j,none⟩=some (.int .i64 x)) :
  md w g (.slice (some ⟨g,f+n,none⟩) (l.length-n) (c-n)) (l.drop n):=by
 refine .inr ⟨f+n,c-n,cs,by rw[List.length_drop],by rw[List.length_drop];omega,by omega,h4,fun j x hx=>?_⟩;rw[List.getElem?_drop]at hx;rw[Nat.add_assoc];exact h5 (n+j) x hx
theorem Ho {w:World} {B:Nat} {v:Value} {l:List Int}(h:ab w B v l) (h1:1≤l.length):∃ g c,v=.slice (some ⟨g,0,none⟩) l.length c∧B≤g∧g<w.heap.size∧∀ j x,l[j]? = some x→w.cell? ⟨g,0+j,none⟩=some (.int .i64 x):=by
 rcases h.form with ⟨rfl,rfl⟩|⟨g,cap,rfl,_,_⟩
 .simp at h1
 .refine⟨g,cap,rfl,(World.ownsRow.lt h g rfl).1,(World.ownsRow.lt h g rfl).2,fun j x hx=>?_⟩
  have hj:=(List.getElem?_eq_some_iff.1 hx).1;rw[Nat.zero_add,h.cell j hj,hx];rfl
theorem O1 {w w0:World} {B B' g:Nat} {ve v7 v8:Value} {es:List Ent} {run rest:List Int}(hE:ac w0 B ve es) (hn:es.length≤1048576) (hr:∀ e ∈ es,e.runes.length≤1048576) (ht:dr w0) (hb:Below w0.heap.size w0 w)
  (i7:ab w B' v7 run) (i8:md w g v8 rest) (h1:1≤run.length) (hl:run.length+rest.length≤3000) :
  Calls prog 201 #[ve,v7,v8] w fun e w'=>e=.returned (Bx (kn es run rest))∧Below w.heap.size w w':=by
 rcases i8 with ⟨a,c,rfl,rfl⟩|⟨f,c,cs,rfl,h2,h3,h4,h5⟩
 .exact O2 w ve v7 a c es run
 .obtain⟨g7,c7,rfl,_,hg7,hc7⟩:=Ho i7 h1
  exact O3 w B g7 0 c7 g f c ve es run rest (hE.below hb) hn hr (ht.below hb) hg7 (Array.getElem?_eq_some_iff.1 h4).1 h1 (by omega) (by omega) h2 hc7 h5
theorem Rz (w w0:World) (B g f c:Nat) (cs:Array Value) (ve:Value) (es:List Ent) (l:List Int) (ar:Below w0.heap.size w0 w) (hE:ac w0 B ve es) (hn:es.length≤1048576) (hr:∀ e ∈ es,e.runes.length≤1048576) (ht:dr w0)
  (aK:w0.heap.size≤g) (h1:1≤l.length) (hl:l.length≤3000) (h2:l.length≤c) (h3:c≤maxLen) (h4:w.heap[g]? = some (.cells cs 3)) (h5:∀ j x,l[j]? = some x→w.cell? ⟨g,f+j,none⟩=some (.int .i64 x)) :
  Calls prog 179 #[ve,.slice (some ⟨g,f,none⟩) l.length c] w fun e w'=>∃ vr vq,e=.returned (.tuple #[vr,vq])∧ab w' w.heap.size vr (fk es l).1∧md w' g vq (fk es l).2∧Below w0.heap.size w0 w'∧w.grownBy w' (some g):=by
 obtain⟨i0,hi,b0,aY,aZ⟩:=info_parts dv;have hg:g<w.heap.size:=(Array.getElem?_eq_some_iff.1 h4).1;have RF:=a28 w B g f c ve es l (hE.below ar) hn hr hg h1 hl h2 h5;obtain⟨b3,aQ,b4⟩:=J6 (es:=es) h1;obtain⟨a0,HG⟩:∃ a0,Hid (fk es l=a0):=⟨_,rfl⟩
 have a5:Hid (mf es (l.take (mw es l)) (l.drop (mw es l))=a0):=HG.out;rw[HG.out];clear HG;generalize mw es l=n at *;obtain⟨va,vn,vc,aX⟩:∃ a n c,ve=.slice a n c:=by
  rcases hE.form with ⟨rfl,_⟩|⟨_,_,rfl,_,_,_,_⟩
  .exact⟨_,_,_,rfl⟩
  .exact⟨_,_,_,rfl⟩
 subst aX;have HE:Hid (ac _ _ _ _):=hE;have HT:Hid (dr _):=ht;have ah:Hid _:=ar;have H5:Hid (∀ j x,l[j]? = some x→w.cell? ⟨g,f+j,none⟩=some (.int .i64 x)):=h5;have H4:Hid (w.heap[g]? = some (.cells cs 3)):=h4;have b8:n≤c:=by omega
 clear hE ht ar h5 h4;go_enter func179,ntmps179;go_wp2_with fail;refine RF.mono ?_;rintro e w1 ⟨rfl,b1⟩;clear RF;have a7:=fun (u:World) (hu:Below w1.heap.size w1 u)=>a83 u g f c (l.take n) (by rw[List.length_take];omega) (fun j x hx=>by
  have aU:j<n:=by
   have:=(List.getElem?_eq_some_iff.1 hx).1;rw[List.length_take]at this;omega
  rw[List.getElem?_take_of_lt aU]at hx;rw[hu.cell (Nat.lt_of_lt_of_le hg b1.size),b1.cell hg];exact H5.out j x hx)
 rw[show (l.take n).length=n by rw[List.length_take];omega]at a7;go_upto_region 2 with fail
 go_cut [7,8] from 14 to 20 (fun v7 v8 wx=>ab wx w1.heap.size v7 (l.take n)∧v8=.slice (if c=n then some ⟨g,f,none⟩ else some ⟨g,f+n,none⟩) (l.length-n) (c-n)∧Below w1.heap.size w1 wx)
 case first =>
  by_cases ae:c=n
  .subst ae
   go_region_with (go_at_call 200;refine (a7 _ (by repeat (first|exact bX|refine Below.drew ?_))).mono ?_;rintro e u6 ⟨v6,rfl,i6,b6⟩)
   all_goals
    have hK:ab u6 w1.heap.size v6 (l.take c)∧Below w1.heap.size w1 u6:=⟨i6,by first|exact b6|exact (bX.drew).trans b6⟩;clear i6 b6 a7;go_wp2_with fail;go_meet
    case rel=>exact⟨hK.1,by simp;omega,hK.2⟩
  .have aS:(c == n)=false:=by simpa using ae
   go_region_with (go_at_call 200;refine (a7 _ (by repeat (first|exact bX|refine Below.drew ?_))).mono ?_;rintro e u6 ⟨v6,rfl,i6,b6⟩)
   all_goals
    have hK:ab u6 w1.heap.size v6 (l.take n)∧Below w1.heap.size w1 u6:=⟨i6,by first|exact b6|exact (bX.drew).trans b6⟩;clear i6 b6 a7;go_wp2_with fail;go_meet
    case rel=>exact⟨hK.1,by rw[if_neg ae],hK.2⟩
 case rest =>
  obtain⟨i7,rfl,bc⟩:=hcut;clear a7;have al:Below w0.heap.size w0 w1:=ah.out.trans (b1.mono ah.out.size);have bw:Below w.heap.size w wc:=b1.trans (bc.mono b1.size);have aF:Below w0.heap.size w0 wc:=al.trans (bc.mono al.size);have aw:wc.heap[g]? = some (.cells cs 3):=(bw.block g hg).trans H4.out;have ax:∀ j x,l[j]? = some x→wc.cell? ⟨g,f+j,none⟩=some (.int .i64 x):=fun j x hx=>(bw.cell hg).trans (H5.out j x hx)
  have hM:md wc g (.slice (if c=n then some ⟨g,f,none⟩ else some ⟨g,f+n,none⟩) (l.length-n) (c-n)) (l.drop n):=by
   by_cases ae:c=n
   .refine .inl ⟨if c=n then some ⟨g,f,none⟩ else some ⟨g,f+n,none⟩,c-n,?_,List.drop_eq_nil_of_le (by omega)⟩
    rw[show l.length-n=0 by omega]
   .rw[if_neg ae]
    exact a00 aQ h2 h3 aw ax
  have aN:Tq w w0 es g l.length a0 u7 (.slice (if c=n then some ⟨g,f,none⟩ else some ⟨g,f+n,none⟩) (l.length-n) (c-n)) wc :=
   ⟨l.take n,l.drop n,by rw[List.length_take];omega,by rw[List.length_take,List.length_drop];omega,fe i7 b1.size,hM,a5.out,aF,⟨bw.os,bw.tape,bw.output,bw.size,fun k hk _=>bw.block k hk⟩⟩
  have aC:Hid (Tq _ _ _ _ _ _ _ _ _):=aN;clear aN hM aw ax aF bw al i7 bc b1 a5 H4 H5 ah;generalize (Value.slice (if c=n then some ⟨g,f,none⟩ else some ⟨g,f+n,none⟩) (l.length-n) (c-n))=v8 at *;go_wp2_with fail;go_loopw [7,8] (fun v7 v8 wr=>Tq w w0 es g l.length a0 v7 v8 wr) (fun _ v8 _=>ou v8)
  case atStart=>exact aC.out
  case round =>
   clear aC;obtain⟨run,rest,aW,b9,j7,j8,a4,jb,jg⟩:=hrel;have MI:=O1 HE.out hn hr HT.out jb j7 j8 aW (by omega);have b7:=j8.len;have a5:Hid (mf es run rest=a0):=a4;have ad:Hid _:=jb;have aj:Hid (World.grownBy _ _ _):=jg;have H7:Hid (ab _ _ _ _):=j7;have H8:Hid (md _ _ _ _):=j8;clear a4 jb jg j7 j8;rcases Aw es run rest with a6|⟨k,a8,a6⟩
   .rw[a6]at MI
    have HF:Hid (a0=(run,rest)):=by show _=_;rw[<- a5.out];exact K9 a6
    clear a5 a6;unfold Bx at MI;simp only[show (-1:Int)<0 from by decide,if_true,show decide ((0:Int)≤-1)=false from rfl]at MI;go_wp2_with fail;refine MI.mono ?_;rintro e w2 ⟨rfl,b2⟩;clear MI;go_wp2;go_ret2;rw[HF.out];exact⟨_,_,rfl,H7.out.below b2,H8.out.below b2,ad.out.trans (b2.mono ad.out.size),aj.out.trans ⟨b2.os,b2.tape,b2.output,b2.size,fun k hk _=>b2.block k hk⟩⟩
   .obtain⟨x,hx⟩:∃ x,rest[k]? = some x:=⟨_,List.getElem?_eq_getElem a8⟩
    have HF:Hid (mf es (run++[x]) (rest.eraseIdx k)=a0):=by
     show _=_
     rw[<- a5.out,Su a8 a6];unfold at0;rw[hx];rfl
    rw[a6]at MI;clear a5 a6;unfold Bx at MI;simp only[show ¬ ((k:Int)<0) from by omega,if_false,show decide ((0:Int)≤(k:Int))=true from decide_eq_true (by omega)]at MI;obtain⟨f8,c8,aG,aR,aI,aJ,ap,aq⟩:∃ f c cs,u8=.slice (some ⟨g,f,none⟩) rest.length c∧rest.length≤c∧c≤maxLen∧wr.heap[g]? = some (.cells cs 3)∧∀ j x,rest[j]? = some x→wr.cell? ⟨g,f+j,none⟩=some (.int .i64 x):=by
     rcases H8.out with ⟨a,c,_,h⟩|h
     .subst h;simp at a8
     .exact h
    subst aR;have a4:g<wr.heap.size:=(Array.getElem?_eq_some_iff.1 ap).1;have b5:(k:Int)<(rest.length:Int):=by omega
    go_wp2_with fail;refine MI.mono ?_;rintro e w2 ⟨rfl,b2⟩;clear MI;have aT:w2.cell? ⟨g,f8+k,none⟩=some (.int .i64 x):=(b2.cell a4).trans (aq k x hx);have az:Hid (w2.heap[g]? = some (.cells aG 3)):=(b2.block g a4).trans ap;have aA:Hid (∀ j x,rest[j]? = some x→w2.cell? ⟨g,f8+j,none⟩=some (.int .i64 x)):=fun j x hx=>(b2.cell a4).trans (aq j x hx)
    have a9:ab w2 w.heap.size u7 run:=H7.out.below b2;have aD:Below w0.heap.size w0 w2:=ad.out.trans (b2.mono ad.out.size);have am:w.grownBy w2 (some g):=aj.out.trans ⟨b2.os,b2.tape,b2.output,b2.size,fun k hk _=>b2.block k hk⟩;have ag:w.heap.size≤w2.heap.size:=am.size;have a1:Hid _:=aD;have a2:Hid (World.grownBy _ _ _):=am;have af:g<w2.heap.size:=Nat.lt_of_lt_of_le a4 b2.size;clear ap aq H7 H8 ad aj b2 aD am a4 hx;unfold ab at a9;go_wp2_with (at_builtin;refine wpList_append_own _ rfl _ _ 39 rfl w.heap.size 3 i0 (.int .i64 0) 1 8 underlying39 hi b0 aY aZ rfl (by decide) _ _ _ rfl (a9.alloc _) ⟨w2.heap.size,0,none⟩ 1 1 [.int .i64 x] rfl rfl (U1 _ _ _ _ (by simp)) (fun u hu=>by simp at hu;subst hu;rfl) (by unfold maxLen;omega) (by omega) (by simp;omega) ?_)
    intro aP w4 aM a3 _;have aO:ab w4 w.heap.size aP (run++[x]):=ab.snoc aM;have aL:some g≠u7.ownBlock:=fun e=>by have:=(World.ownsRow.lt a9 g e.symm).1;omega
    have an:w4.heap[g]? = some (.cells aG 3):=(a3.block g (by simp;omega) aL).trans ((Below.heap_alloc _ _ _ af).trans az.out);have ao:∀ j x,rest[j]? = some x→w4.cell? ⟨g,f8+j,none⟩=some (.int .i64 x):=fun j y hy=>by
     rw[World.cell?_of_block ((a3.block g (by simp;omega) aL).trans (Below.heap_alloc _ _ _ af))];exact aA.out j y hy
    have aE:Below w0.heap.size w0 w4:=Below.grown (a1.out.alloc a1.out.size _) a3 (a1.out.alloc a1.out.size _).size (fun j hj=>Nat.le_trans (Nat.le_trans aK (Nat.le_of_lt hg)) (World.ownsRow.lt a9 j hj).1);have aH:w.grownBy w4 (some g):=by
     refine⟨a3.os.trans a2.out.os,a3.tape.trans a2.out.tape,a3.output.trans a2.out.output,Nat.le_trans ag (Nat.le_trans (by simp) a3.size),fun k hk hkn=>?_⟩;have aV:k<w2.heap.size:=Nat.lt_of_lt_of_le hk ag;rw[a3.block k (by simp;omega) (fun e=>by have:=(World.ownsRow.lt a9 k e.symm).1;omega),Below.heap_alloc _ _ _ aV];exact a2.out.block k hk hkn
    have av:=Yh w4 g f8 c8 k rest a8 aI aJ ao (fun j=>by simp[World.frozen?,an]);have aB:=fun q=>ad0 (q:=q) a8 aI aJ an ao
    have ak:Hid (∀ q,md ((w4.drewN q).setCells g f8 ((rest.eraseIdx k++[0]).map (Value.int .i64))) g (.slice (some ⟨g,f8,none⟩) (rest.eraseIdx k).length c8) (rest.eraseIdx k)):=aB;have au:=List.length_eraseIdx_of_lt a8;have ay:Hid (ab _ _ _ _):=aO;have aa:Hid _:=aE;have ai:Hid (World.grownBy _ _ _):=aH;clear aM a3 an ao aB aO aE aH a9 a1 a2 az aA aT;go_wp2_with fail;refine av.mono ?_;rintro e w5 ⟨rfl,q,rfl⟩;clear av;go_wp2;refine⟨⟨run++[x],rest.eraseIdx k,by simp,by rw[List.length_append];simp;omega,?_,(by have hq:=ak.out q;rw[List.map_append,au]at hq;exact hq),HF.out,?_,ai.out.trans (so w4 q g f8 _)⟩,?_⟩
    .refine World.ownsRow.kept ay.out (so w4 q g f8 _) ?_
     cases hv:aP.ownBlock with
     | none=>exact .inl rfl
     | some j=>exact .inr fun c=>by have:=(World.ownsRow.lt ay.out j hv).1;have:=Option.some.inj c;omega
    .exact Below.grown aa.out (so w4 q g f8 _) aa.out.size (fun j hj=>by cases hj;exact aK)
    .show ou _<ou _
     simp[ou]
     omega
theorem Uc {es:List Ent} {run:List Int} {e:El}(h:dj es run=some e):ju es run=[e]:=by unfold ju;rw[h]
theorem Ub {es:List Ent} {run:List Int}(h:dj es run=none):ju es run=base (at0 run 0):=by unfold ju;rw[h]
theorem Qg {w:World} {B B':Nat} {ve v:Value} {es:List Ent} {run:List Int}(hE:ac w B ve es) (hn:es.length≤1048576) (hr:∀ e ∈ es,e.runes.length≤1048576) (ht:dr w) (hI:ab w B' v run) (h1:1≤run.length) (hg:∀ x ∈ run,bp x=true) :
  Calls prog 180 #[ve,v] w fun e w'=>∃ v',e=.returned v'∧ah w' w.heap.size v' (ju es run)∧Below w.heap.size w w':=by
 have EN:=yz hE hI.rowAt hn hr;obtain⟨x,hx⟩:∃ x,run[0]? = some x:=⟨_,List.getElem?_eq_getElem (by omega)⟩
 have a4:at0 run 0=x:=by unfold at0;rw[hx];rfl
 have a3:=hg x (List.mem_of_getElem? hx);obtain⟨q0,q1,q2⟩:=l7 a3;obtain⟨gv,cv,rfl,_,a0,a2⟩:=Ho hI h1;have c0:w.cell? ⟨gv,0,none⟩=some (.int .i64 x):=a2 0 x hx;have a5:(0:Int)<(run.length:Int):=by omega
 have W:=fun (u:World) (hu:Below w.heap.size w u)=>Ii x q0 q1 (by omega) u ((ht.below hu).1)
 obtain⟨va,vn,vc,rfl⟩:∃ a n c,ve=.slice a n c:=by
  rcases hE.form with ⟨rfl,_⟩|⟨_,_,rfl,_,_,_,_⟩
  .exact⟨_,_,_,rfl⟩
  .exact⟨_,_,_,rfl⟩
 clear hE hI hg a3 a2 ht
 cases ho:dj es run with
 | some e =>
  rw[ho]at EN;rw[Uc ho];unfold fo elV ph at EN;simp only[Option.getD_some,Option.isSome_some]at EN;clear ho W;go_enter func180,ntmps180;go_wp2_with fail;refine EN.mono ?_;rintro x w2 ⟨rfl,b2⟩;clear EN c0;go_wp2;go_ret;exact⟨_,rfl,jy [e] rfl rfl (heap_alloc2_new w2 _ _) (by have:=b2.size;omega) (by unfold maxLen;omega),(b2.alloc b2.size _).alloc (b2.alloc b2.size _).size _⟩
 | none =>
  rw[ho]at EN;rw[Ub ho,a4];unfold fo elV ph at EN;simp only[Option.getD_none,Option.isSome_none]at EN;clear ho;rcases Gs x with hb|⟨e,hb⟩|⟨e,f,hb⟩
  .rw[hb]at W ⊢
   unfold wtV at W;have mt:∀ (k:Nat) (w:World),(method (k+1) 274 (.agg #[]) "loop.example/g00158/impl.elems").run prog w=.ok (270,.agg #[]) w:=fun _ _=>by kernel_rfl
   clear hb;go_enter func180,ntmps180;go_wp2_with fail;refine EN.mono ?_;rintro x w2 ⟨rfl,b2⟩;clear EN;have b3:Below w.heap.size w (w2.alloc (.cells #[.int .i64 0,.int .i64 0,.int .i64 0,.bool false] 111)):=b2.alloc b2.size _;have W1:=W _ b3;have c2:w2.cell? ⟨gv,0,none⟩=some (.int .i64 _):=(b2.cell a0).trans c0;have a1:gv<w2.heap.size:=Nat.lt_of_lt_of_le a0 b2.size;clear W c0;go_wp2_with fail;refine W1.mono ?_;rintro x w4 ⟨rfl,b4⟩;have b5:=b3.trans (b4.mono b3.size);clear W1 b4 b3;go_wp2;go_ret;exact⟨_,rfl,⟨rfl,.inl ⟨rfl,rfl⟩⟩,b5.alloc b5.size _⟩
  .rw[hb]at W ⊢
   unfold wtV at W;have mt:∀ (k:Nat) (w:World),(method (k+1) 266 (.agg #[.int .i64 e.first,.int .i64 e.second,.int .i64 e.third,.bool e.varies]) "loop.example/g00158/impl.elems").run prog w=.ok (269,.agg #[.int .i64 e.first,.int .i64 e.second,.int .i64 e.third,.bool e.varies]) w:=fun _ _=>by kernel_rfl
   clear hb;go_enter func180,ntmps180;go_wp2_with fail;refine EN.mono ?_;rintro x w2 ⟨rfl,b2⟩;clear EN;have b3:Below w.heap.size w (w2.alloc (.cells #[.int .i64 0,.int .i64 0,.int .i64 0,.bool false] 111)):=b2.alloc b2.size _;have W1:=W _ b3;have c2:w2.cell? ⟨gv,0,none⟩=some (.int .i64 _):=(b2.cell a0).trans c0;have a1:gv<w2.heap.size:=Nat.lt_of_lt_of_le a0 b2.size;clear W c0;go_wp2_with fail;refine W1.mono ?_;rintro x w4 ⟨rfl,b4⟩;have b5:=b3.trans (b4.mono b3.size);clear W1 b4 b3;go_wp2;go_ret;exact⟨_,rfl,jy [e] rfl rfl (heap_alloc2_new w4 _ _) (by have:=b5.size;omega) (by unfold maxLen;omega),(b5.alloc b5.size _).alloc (b5.alloc b5.size _).size _⟩
  .rw[hb]at W ⊢
   unfold wtV at W;have mt:∀ (k:Nat) (w:World),(method (k+1) 280 (.agg #[.int .i64 e.first,.int .i64 e.second,.int .i64 e.third,.bool e.varies,.int .i64 f.first,.int .i64 f.second,.int .i64 f.third,.bool f.varies]) "loop.example/g00158/impl.elems").run prog w=.ok (271,.agg #[.int .i64 e.first,.int .i64 e.second,.int .i64 e.third,.bool e.varies,.int .i64 f.first,.int .i64 f.second,.int .i64 f.third,.bool f.varies]) w:=fun _ _=>by kernel_rfl
   clear hb;go_enter func180,ntmps180;go_wp2_with fail;refine EN.mono ?_;rintro x w2 ⟨rfl,b2⟩;clear EN;have b3:Below w.heap.size w (w2.alloc (.cells #[.int .i64 0,.int .i64 0,.int .i64 0,.bool false] 111)):=b2.alloc b2.size _;have W1:=W _ b3;have c2:w2.cell? ⟨gv,0,none⟩=some (.int .i64 _):=(b2.cell a0).trans c0;have a1:gv<w2.heap.size:=Nat.lt_of_lt_of_le a0 b2.size;clear W c0;go_wp2_with fail;refine W1.mono ?_;rintro x w4 ⟨rfl,b4⟩;have b5:=b3.trans (b4.mono b3.size);clear W1 b4 b3;go_wp2;go_ret;exact⟨_,rfl,jy [e,f] rfl rfl (heap_alloc2_new w4 _ _) (by have:=b5.size;omega) (by unfold maxLen;omega),(b5.alloc b5.size _).alloc (b5.alloc b5.size _).size _⟩
theorem Sq {w:World} {B B':Nat} {v:Value} {es:List El}(h:ah w B' v es) (hB:B≤B'):ah w B v es:=by
 refine⟨h.1,?_⟩;rcases h.2 with h|⟨g,cap,cur,h1,h2,h3⟩
 .exact .inl h
 .exact .inr ⟨g,cap,cur,h1,Nat.le_trans hB h2,h3⟩
theorem ak6 (x:ByteArray):∀ y ∈ aR x,bp y=true:=by
 unfold aR;split
 .intro y hy
  exact M0 (Fj x.size x) y (Kk.1 hy)
 .intro y hy;cases hy
def mm (u:World) (b:Nat) (v:Value) (sh:Bool) (lv:Int):Prop:=u.heap[b]? = some (.cells #[v,.bool sh,.int .i64 lv] 56)
theorem mm.below {B b:Nat} {u u':World} {v:Value} {sh:Bool} {lv:Int}(h:mm u b v sh lv) (hb:Below B u u') (a0:b<B):mm u' b v sh lv:=(hb.block b a0).trans h
theorem mm.cells {b:Nat} {u:World} {v:Value} {sh:Bool} {lv:Int}(h:mm u b v sh lv):u.cell? ⟨b,0,none⟩=some v∧u.cell? ⟨b,1,none⟩=some (.bool sh)∧u.cell? ⟨b,2,none⟩=some (.int .i64 lv) :=
 ⟨cell_of_row _ _ 0 _ _ _ h,cell_of_row _ _ 1 _ _ _ h,cell_of_row _ _ 2 _ _ _ h⟩
def aj3 (w0:World) (es:List Ent) (goal:List El) (v6 v8:Value) (wr:World):Prop :=
 ∃ (g:Nat) (rest:List Int) (done:List El),w0.heap.size≤g∧rest.length≤200∧done.length+2*rest.length≤400∧(∀ x ∈ rest,bp x=true)∧md wr g v6 rest∧ah wr w0.heap.size v8 done∧done++eb es rest=goal∧Below w0.heap.size w0 wr
theorem Yt {u u':World} {B g:Nat} {v:Value} {es:List El} {cs:Array Value}(h:ah u B v es) (hg:u.grownBy u' (some g)) (hc:u.heap[g]? = some (.cells cs 3)):ah u' B v es:=by
 refine World.ownsRow.kept h hg ?_;rcases h.2 with ⟨rfl,_⟩|⟨g',cap,cur,rfl,_,h3,_⟩
 .exact .inl rfl
 .refine .inr fun e=>?_
  have e2:g'=g:=Option.some.inj e;subst e2;rw[hc]at h3;injection h3 with h4;injection h4 with _ h5;exact absurd h5 (by decide)
theorem Qh {w wb:World} {B:Nat} {ve v:Value} {es:List Ent} {rs:List Int}(ad:Below wb.heap.size wb w) (hE:ac wb B ve es) (ap:es.length≤1048576) (hr:∀ e ∈ es,e.runes.length≤1048576) (ht:dr wb) (hI:ab w wb.heap.size v rs) (a1:rs.length≤200) (a0:∀ x ∈ rs,bp x=true) :
  Calls prog 154 #[ve,v] w fun e w'=>∃ v',e=.returned v'∧ah w' wb.heap.size v' (eb es rs)∧Below wb.heap.size wb w':=by
 obtain⟨va,vc,rfl⟩:∃ a c,ve=.slice a es.length c:=by
  rcases hE.form with ⟨rfl,rfl⟩|⟨_,_,rfl,_,_,_,_⟩
  .exact⟨_,_,rfl⟩
  .exact⟨_,_,rfl⟩
 have al:Hid (aj3 wb es (eb es rs) v (.slice none 0 0) w):=by
  rcases hI.midI with h|⟨g,f,c,cs,h1,h2,h3,h4,h5,h6⟩
  .exact⟨wb.heap.size,rs,[],bR,a1,by simp;omega,a0,.inl h,⟨rfl,.inl ⟨rfl,rfl⟩⟩,rfl,ad⟩
  .exact⟨g,rs,[],h4,a1,by simp;omega,a0,.inr ⟨f,c,cs,h1,h2,h3,h5,h6⟩,⟨rfl,.inl ⟨rfl,rfl⟩⟩,rfl,ad⟩
 have HE:Hid (ac _ _ _ _):=hE;have HT:Hid (dr _):=ht;generalize eb es rs=goal at *;clear a1 a0 hI ad hE ht;go_enter func154,ntmps154;go_wp2_with fail;go_loopw [1,5] (fun v6 v8 wr=>aj3 wb es goal v6 v8 wr) (fun v6 _ _=>ou v6)
 case atStart=>exact al.out
 case round =>
  clear al;obtain⟨g,rest,done,am,aD,aA,ae,hM,hD,an,hbr⟩:=hrel;have aC:=hM.len;have a4:Hid (done++eb es rest=goal):=an;clear an;by_cases h0:rest.length=0
  .have av:rest=[]:=List.eq_nil_of_length_eq_zero h0
   subst av;have HF:Hid (done=goal):=by show _=_;rw[<- a4.out,Ha,List.append_nil]
   obtain⟨a6,c6,rfl⟩:∃ a c,u1=.slice a 0 c:=by
    rcases hM with ⟨a,c,h,_⟩|⟨f,c,cs,h,_⟩
    .exact⟨a,c,h⟩
    .exact⟨_,_,h⟩
   have HD:Hid (ah _ _ _ _):=hD;have ar:Hid _:=hbr;clear hM a4 hD hbr;go_wp2;go_ret;rw[<- HF.out];exact⟨_,rfl,HD.out,ar.out⟩
  .obtain⟨f,c,cs,h61,h62,h63,h64,h65⟩:∃ f c cs,u1=.slice (some ⟨g,f,none⟩) rest.length c∧rest.length≤c∧c≤maxLen∧wr.heap[g]? = some (.cells cs 3)∧∀ j x,rest[j]? = some x→wr.cell? ⟨g,f+j,none⟩=some (.int .i64 x):=by
    rcases hM with ⟨a,c,_,h⟩|h
    .subst h;exact absurd rfl h0
    .exact h
   subst h61;have hk:=pe (es:=es) (l:=rest) (by omega);have TR:=Rz wr wb B g f c cs (.slice va es.length vc) es rest hbr HE.out ap hr HT.out am (by omega) (by omega) h62 h63 h64 h65;have a8:Hid ((done++ju es (fk es rest).1)++eb es (fk es rest).2=goal):=by
    show _=_
    rw[<- a4.out,Ef (es:=es) (l:=rest) (by omega),List.append_assoc]
   have aB:=C8 es (fk es rest).1;obtain⟨k1,k2,k3,k4,k5⟩:=hk;generalize (fk es rest).1=run at *;generalize (fk es rest).2=rest2 at *;have a2:Hid (wr.heap[g]? = some (.cells cs 3)):=h64;have ao:∀ x ∈ run,bp x=true:=fun x hx=>ae x (k4 x hx)
   have a3:∀ x ∈ rest2,bp x=true:=fun x hx=>ae x (k5 x hx)
   have a9:Hid (∀ x ∈ rest2,bp x=true):=a3;have ag:Hid (∀ x ∈ run,bp x=true):=ao;have HD:Hid (ah _ _ _ _):=hD;have ay:=hbr.size;have az:(0:Int)<(rest.length:Int):=by omega
   clear h64 h65 hM a4 ae ao a3 hD k3 k4 k5 hbr;go_wp2_with fail;refine TR.mono ?_;rintro e w3 ⟨vr,vq,rfl,ir,mq,b3,g3⟩;clear TR;have af:Hid (ah w3 wb.heap.size u5 done):=Yt HD.out g3 a2.out;have EO:=Qg (HE.out.below b3) ap hr (HT.out.below b3) ir k2 ag.out;have aw:=b3.size;have ak:Hid (md _ _ _ _):=mq;have a5:Hid _:=b3;clear HD g3 a2 ir mq b3 ag;go_wp2_with fail;refine EO.mono ?_;rintro e w4 ⟨v4,rfl,e4,b4⟩;clear EO;have aa:Below wb.heap.size wb w4:=a5.out.trans (b4.mono a5.out.size);have d4:ah w4 wb.heap.size u5 done:=af.out.below b4;have m4:md w4 g vq rest2:=ak.out.below b4;have ai:Hid (md _ _ _ _):=m4;have a7:Hid (Below _ _ _):=aa;have ax:=aa.size;clear af ak a5 b4 aa m4;go_wp2_with (at_builtin;refine A8 rfl _ _ rfl wb.heap.size _ u5 v4 done (ju es run) rfl rfl d4 e4 (by omega) (by omega) ?_)
   intro v5 w5 e5 g5;have aj:Hid (md w5 g vq rest2):=by
    rcases ai.out with h|⟨f,c,cs,q1,q2,q3,q4,q5⟩
    .exact .inl h
    .refine md.kept (.inr ⟨f,c,cs,q1,q2,q3,q4,q5⟩) g5 fun c=>?_
     rcases d4.2 with ⟨rfl,_⟩|⟨g',cap,cur,rfl,_,h3,_⟩
     .cases c
     .have e2:g=g':=Option.some.inj c
      subst e2;rw[q4]at h3;injection h3 with h4;injection h4 with _ h5;exact absurd h5 (by decide)
   have aq:Hid (Below wb.heap.size wb w5):=Below.grown a7.out g5 a7.out.size (fun j hj=>(World.ownsRow.lt d4 j hj).1);have au:Hid (ah _ _ _ _):=e5;clear e5 g5 d4 e4 ai a7;go_wp2;refine⟨⟨g,rest2,done++ju es run,am,by omega,by rw[List.length_append];omega,a9.out,aj.out,au.out,a8.out,aq.out⟩,?_⟩;have:=aj.out.len;show ou _<ou _
   rw[this];show _<rest.length
   omega
theorem Hn {w:World} {B:Nat} {ve:Value} {es:List Ent} {sh:Bool} {lv:Int}(x:ByteArray) (hx:x.size≤1048576) (hE:ac w B ve es) (hr:∀ e ∈ es,e.runes.length≤1048576) (ht:dr w) :
  Calls prog 136 #[.agg #[ve,.bool sh,.int .i64 lv],.string x] w fun e w'=>∃ v',e=.returned (.tuple #[v',.bool (okE es lv x)])∧ah w' w.heap.size v' (f9 es lv x)∧Below w.heap.size w w':=by
 obtain⟨va,vc,rfl⟩:∃ a c,ve=.slice a es.length c:=by
  rcases hE.form with ⟨rfl,rfl⟩|⟨_,_,rfl,_,_,_,_⟩
  .exact⟨_,_,rfl⟩
  .exact⟨_,_,rfl⟩
 have a1:Below w.heap.size w (w.alloc (.cells #[.slice va es.length vc,.bool sh,.int .i64 lv] 56)):=bY _;have a0:mm (w.alloc (.cells #[.slice va es.length vc,.bool sh,.int .i64 lv] 56)) w.heap.size (.slice va es.length vc) sh lv:=heap_alloc_new w _;have AT:=Gl x hx (w.alloc (.cells #[.slice va es.length vc,.bool sh,.int .i64 lv] 56)) (ht.below a1);have a3:=Xr x;have a2:=ak6 x;unfold f9 okE;have HE:Hid (ac _ _ _ _):=hE.below a1;have HT:Hid (dr _):=ht.below a1;clear hE ht
 cases hok:ok4 x
 .rw[hok]at AT
  rw[Bool.false_and,if_neg (by simp)];clear hok;go_enter func136,ntmps136;go_wp2_with fail;refine AT.mono ?_;rintro e w1 ⟨v1,rfl,i1,b1⟩;clear AT;go_wp2;go_ret2;exact⟨_,rfl,⟨rfl,.inl ⟨rfl,rfl⟩⟩,a1.trans (b1.mono a1.size)⟩
 .have a7:aR x=rn4 x:=by unfold aR;rw[hok];rfl
  rw[hok,a7]at AT;rw[a7]at a3 a2;rw[Bool.true_and];clear hok a7;generalize rn4 x=rs at *;have GR:=fun (u:World) (hu:Below (w.alloc (.cells #[.slice va es.length vc,.bool sh,.int .i64 lv] 56)).heap.size (w.alloc (.cells #[.slice va es.length vc,.bool sh,.int .i64 lv] 56)) u)=>ut (sh:=sh) (lv:=lv) (HE.out.below hu) hr (HT.out.below hu)
  have a5:w.heap.size<(w.alloc (.cells #[.slice va es.length vc,.bool sh,.int .i64 lv] 56)).heap.size:=by simp
  cases hro:ay es lv
  .rw[hro]at GR
   rw[if_neg (by simp)];clear hro;go_enter func136,ntmps136;go_wp2_with fail;refine AT.mono ?_;rintro e w1 ⟨v1,rfl,i1,b1⟩;have G1:=GR _ b1;obtain⟨c0,c1,c2⟩:=(a0.below b1 a5).cells;have a8:=b1.size;clear AT GR a0;go_wp2_with fail;refine G1.mono ?_;rintro e w2 ⟨rfl,b2⟩;clear G1;have b3:=a1.trans ((b1.trans (b2.mono b1.size)).mono a1.size);go_wp2;go_ret2;exact⟨_,rfl,⟨rfl,.inl ⟨rfl,rfl⟩⟩,b3⟩
  .rw[hro]at GR
   rw[if_pos rfl];have aa:es.length≤1048576:=by have:=(of_decide_eq_true (show decide _=true from hro)).1;omega
   clear hro;obtain⟨wb,a6⟩:∃ wb,Hid (wb=w.alloc (.cells #[.slice va es.length vc,.bool sh,.int .i64 lv] 56)):=⟨_,rfl⟩
   have a9:=a6.out;rw[<- a9]at a1 a0 HE HT a5 AT GR;clear a9;go_enter func136,ntmps136;go_wp2_with fail;rw[<- a6.out];refine AT.mono ?_;rintro e w1 ⟨v1,rfl,i1,b1⟩;have G1:=GR _ b1;obtain⟨c0,c1,c2⟩:=(a0.below b1 a5).cells;have a8:=b1.size;have ae:w.heap.size<w1.heap.size:=by omega
   clear AT GR a6;go_wp2_with fail;refine G1.mono ?_;rintro e w2 ⟨rfl,b2⟩;have a4:=b1.trans (b2.mono b1.size);have ER:=Qh a4 HE.out aa hr HT.out (i1.below b2) a3 a2;clear G1 c0 c1 c2;obtain⟨c0,c1,c2⟩:=(a0.below a4 a5).cells;have ad:=a4.size;have ab:w.heap.size<w2.heap.size:=by omega
   clear i1 b1 b2 a4;go_wp2_with fail;refine ER.mono ?_;rintro e w3 ⟨v3,rfl,e3,b3⟩;clear ER c0 c1 c2;go_wp2;go_ret2;exact⟨_,rfl,Sq e3 a1.size,a1.trans (b3.mono a1.size)⟩
theorem yx (sh:Bool):ck sh []=[]:=rfl
theorem zc (sh:Bool):dc sh []=[]:=rfl
def yr (u:World) (b:Nat) (v v':Value):Prop:=u.heap[b]? = some (.cells #[v,v'] 170)
theorem yr.below {B b:Nat} {u u':World} {v v':Value}(h:yr u b v v') (hb:Below B u u') (a0:b<B):yr u' b v v':=(hb.block b a0).trans h
theorem yr.cells {b:Nat} {u:World} {v v':Value}(h:yr u b v v'):u.cell? ⟨b,0,none⟩=some v∧u.cell? ⟨b,1,none⟩=some v'∧∀ j,u.frozen? ⟨b,j,none⟩=false :=
 ⟨cell_of_row _ _ 0 _ _ _ h,cell_of_row _ _ 1 _ _ _ h,fun j=>by unfold yr at h;simp[World.frozen?,h]⟩
theorem xe {w:World} {B:Nat} {v:Value} {es:List El}(h:ah w B v es):∃ a c,v=.slice a es.length c:=by
 obtain⟨a,c,h,_⟩:=tu h;exact⟨a,c,h⟩
theorem jq {w:World} {B:Nat} {v:Value} {l:List Int}(h:ab w B v l):∃ a c,v=.slice a l.length c:=by
 obtain⟨a,c,h,_⟩:=rj h;exact⟨a,c,h⟩
theorem a94 {w:World} {B b:Nat} {v x y:Value} {es:List El}(h:ah w B v es) (hb:b<B):ah ((w.setCell ⟨b,0,none⟩ x).setCell ⟨b,1,none⟩ y) B v es :=
 World.ownsRow.kept (World.ownsRow.kept h (au w b 0 x) (by
  cases e:v.ownBlock with
  | none=>exact .inl rfl
  | some g=>exact .inr fun c=>by have:=(World.ownsRow.lt h g e).1;cases c;omega)) (au _ b 1 y) (by
  cases e:v.ownBlock with
  | none=>exact .inl rfl
  | some g=>exact .inr fun c=>by have:=(World.ownsRow.lt h g e).1;cases c;omega)
theorem Zm {w:World} {B b:Nat} {v x y:Value} {l:List Int}(h:ab w B v l) (hb:b<B):ab ((w.setCell ⟨b,0,none⟩ x).setCell ⟨b,1,none⟩ y) B v l :=
 World.ownsRow.kept (World.ownsRow.kept h (au w b 0 x) (by
  cases e:v.ownBlock with
  | none=>exact .inl rfl
  | some g=>exact .inr fun c=>by have:=(World.ownsRow.lt h g e).1;cases c;omega)) (au _ b 1 y) (by
  cases e:v.ownBlock with
  | none=>exact .inl rfl
  | some g=>exact .inr fun c=>by have:=(World.ownsRow.lt h g e).1;cases c;omega)
theorem Gw {w u:World} {b B:Nat} {x y:Value}(h:Below B w u) (hb:B≤b):Below B w ((u.setCell ⟨b,0,none⟩ x).setCell ⟨b,1,none⟩ y):=(h.setCell hb _).setCell hb _
theorem Jo {w:World} {B:Nat} {ve:Value} {es:List Ent} {sh:Bool} {lv:Int}(x:ByteArray) (hx:x.size≤1048576) (hE:ac w B ve es) (hr:∀ e ∈ es,e.runes.length≤1048576) (ht:dr w) :
  Calls prog 107 #[.agg #[ve,.bool sh,.int .i64 lv],.string x] w fun e w'=>∃ v v',e=.returned (.tuple #[.agg #[v,v'],.bool (okE es lv x)])∧ah w' w.heap.size v (ck sh (f9 es lv x))∧ab w' w.heap.size v' (dc sh (f9 es lv x))∧Below w.heap.size w w':=by
 obtain⟨va,vc,rfl⟩:∃ a c,ve=.slice a es.length c:=by
  rcases hE.form with ⟨rfl,rfl⟩|⟨_,_,rfl,_,_,_,_⟩
  .exact⟨_,_,rfl⟩
  .exact⟨_,_,rfl⟩
 have a7:Below w.heap.size w ((w.alloc (.cells #[.slice va es.length vc,.bool sh,.int .i64 lv] 56)).alloc (.cells #[.slice none 0 0,.slice none 0 0] 170)):=(bY _).alloc (by simp) _;have a4:mm ((w.alloc (.cells #[.slice va es.length vc,.bool sh,.int .i64 lv] 56)).alloc (.cells #[.slice none 0 0,.slice none 0 0] 170)) w.heap.size (.slice va es.length vc) sh lv:=by
  unfold mm;rw[Below.heap_alloc _ _ _ (by simp)];exact heap_alloc_new w _
 have a1:yr ((w.alloc (.cells #[.slice va es.length vc,.bool sh,.int .i64 lv] 56)).alloc (.cells #[.slice none 0 0,.slice none 0 0] 170)) (w.heap.size+1) (.slice none 0 0) (.slice none 0 0):=heap_alloc2_new w _ _;have ai:((w.alloc (.cells #[.slice va es.length vc,.bool sh,.int .i64 lv] 56)).alloc (.cells #[.slice none 0 0,.slice none 0 0] 170)).heap.size=w.heap.size+1+1:=by simp
 have EI:=Hn (sh:=sh) (lv:=lv) x hx (hE.below a7) hr (ht.below a7);have ad:=Fl es lv x;have a9:Hid (_=_):=ai;have al:Hid (mm _ _ _ _ _):=a4;have ae:Hid (yr _ _ _ _):=a1;have a6:Hid _:=a7;clear hE ht hr hx ai a4 a1 a7
 cases hok:okE es lv x
 .rw[hok]at EI
  have ag:f9 es lv x=[]:=by unfold f9;rw[hok];rfl
  rw[ag,yx,zc];clear hok ag ad;go_enter func107,ntmps107;go_wp2_with fail;refine EI.mono ?_;rintro e w1 ⟨v1,rfl,i1,b1⟩;have a0:=ae.out.below b1 (by rw[a9.out];omega);obtain⟨c0,c1,cf⟩:=a0.cells;have a8:w.heap.size+1<w1.heap.size:=(Array.getElem?_eq_some_iff.1 a0).1;have a5:Hid _:=a6.out.trans (b1.mono a6.out.size);clear EI i1 b1 a0;go_wp2;refine bodyPost_ret (v:=.tuple #[.agg #[.slice none 0 0,.slice none 0 0],.bool false]) ?_ rfl ⟨_,_,rfl,⟨rfl,.inl ⟨rfl,rfl⟩⟩,⟨rfl,.inl ⟨rfl,rfl⟩⟩,Gw a5.out (by omega)⟩;rw[results_cell_tmp rfl];go_simp
 .rw[hok]at EI
  clear hok;generalize f9 es lv x=el at *;go_enter func107,ntmps107;go_wp2_with fail;refine EI.mono ?_;rintro e w1 ⟨v1,rfl,i1,b1⟩;have aj:=al.out.below b1 (by rw[a9.out];omega);have a0:=ae.out.below b1 (by rw[a9.out];omega);obtain⟨p0,p1,p2⟩:=aj.cells;have a8:w.heap.size+1<w1.heap.size:=(Array.getElem?_eq_some_iff.1 a0).1;have a5:Hid _:=a6.out.trans (b1.mono a6.out.size);have FO:=L7 sh (by omega) i1;have af:Hid (yr _ _ _ _):=a0;clear EI i1 b1 a0 aj;go_wp2_with fail;refine FO.mono ?_;rintro e w2 ⟨v2,v3,rfl,i2,e2,b2⟩;have aa:=af.out.below b2 a8;obtain⟨c0,c1,cf⟩:=aa.cells;have ao:w.heap.size+1<w2.heap.size:=(Array.getElem?_eq_some_iff.1 aa).1;have ak:Hid _:=a5.out.trans (b2.mono a5.out.size);have an:Hid (ab _ _ _ _):=i2;have am:Hid (ah _ _ _ _):=e2;obtain⟨a3,k3,rfl⟩:=xe e2;obtain⟨a2,k2,rfl⟩:=jq i2
  clear FO p0 p1 p2 b2 aa i2 e2 af;go_wp2;refine bodyPost_ret (v:=.tuple #[.agg #[.slice a3 (ck sh el).length k3,.slice a2 (dc sh el).length k2],.bool true]) ?_ rfl ⟨_,_,rfl,Sq (a94 am.out a8) (by omega),sj (Zm an.out a8) (by omega),Gw ak.out (by omega)⟩;rw[results_cell_tmp rfl];go_simp
theorem Pv {w:World} {B B':Nat} {ve vf:Value} {xs:List El} {fs:List Int}(lv:Nat) (h1:1≤lv) (h4:lv≤4) (hE:ah w B ve xs) (hI:ab w B' vf fs) (hl:fs.length=xs.length) (hn:xs.length≤1048576) :
  Calls prog 108 #[.agg #[ve,vf],.int .i64 lv] w fun e w'=>∃ v,e=.returned v∧ab w' w.heap.size v (wts lv xs fs)∧Below w.heap.size w w':=by
 obtain rfl|rfl|rfl|rfl:lv=1∨lv=2∨lv=3∨lv=4:=by omega
 .exact Dg hE hI hl hn
 .exact Ps hE hI hl hn
 .exact Pt hE hI hl hn
 .exact Pu hE hI hl hn
def ay5 (W:World) (xs:List El) (fs:List Int) (n:Nat) (v8 v9:Value) (wr:World):Prop :=
 ∃ l:Nat,l≤n∧v9=.int .i64 ((l:Int)+1)∧Bys wr W.heap.size v8 (km xs fs l)∧Below W.heap.size W wr
def ay4 (W:World) (B:Nat) (v33:Value) (pre ws:List Int) (v8 i:Value) (wr:World):Prop :=
 ∃ k:Nat,k≤ws.length∧i=.int .i64 k∧Bys wr W.heap.size v8 (pre++j9 (ws.take k))∧ab wr B v33 ws∧Below W.heap.size W wr
theorem ai4 {ws:List Int} {k:Nat} {x:Int}(h:ws[k]? = some x) (pre:List Int):pre++j9 (ws.take (k+1))=(pre++j9 (ws.take k))++[x / 256,x % 256]:=by
 rw[List.take_add_one,h,Ji,List.append_assoc];simp[Jk]
theorem aq9 {lv:Nat} {es:List El} {sh:Bool}(h:∀ e ∈ es,lc e):∀ n ∈ wts lv (ck sh es) (dc sh es),1≤n∧n≤65535 :=
 Gf (my h _).2 (my h _).1 _
theorem ao0 {es:List Ent} {sh:Bool} {lv:Int} {x:ByteArray}(h:okE es lv x=true):qf es sh lv x=ix (km (ck sh (f9 es lv x)) (dc sh (f9 es lv x)) lv.toNat):=by
 unfold qf f9;rw[if_pos h,if_pos h];rfl
theorem a90 {es:List Ent} {lv:Int} {x:ByteArray}:∀ e ∈ f9 es lv x,lc e:=by
 unfold f9;split
 .rename_i h
  exact rd (ui h).2.2 (Dy x)
 .intro e he;cases he
theorem t7 {w:World} {B:Nat} {ve:Value} {es:List Ent} {sh:Bool} {lv:Int}(x:ByteArray) (hx:x.size≤1048576) (hE:ac w B ve es) (hr:∀ e ∈ es,e.runes.length≤1048576) (ht:dr w) :
  Calls prog 60 #[.agg #[ve,.bool sh,.int .i64 lv],.string x] w fun e w'=>e=.returned (.tuple #[.string (qf es sh lv x),.bool (okE es lv x)])∧Below w.heap.size w w':=by
 obtain⟨va,vc,rfl⟩:∃ a c,ve=.slice a es.length c:=by
  rcases hE.form with ⟨rfl,rfl⟩|⟨_,_,rfl,_,_,_,_⟩
  .exact⟨_,_,rfl⟩
  .exact⟨_,_,rfl⟩
 obtain⟨i0,hi0,aM,aK,aL⟩:=info_parts Sw;have af:Below w.heap.size w (w.alloc (.cells #[.slice va es.length vc,.bool sh,.int .i64 lv] 56)):=bY _;have a8:mm (w.alloc (.cells #[.slice va es.length vc,.bool sh,.int .i64 lv] 56)) w.heap.size (.slice va es.length vc) sh lv:=heap_alloc_new w _;have C:=Jo (sh:=sh) (lv:=lv) x hx (hE.below af) hr (ht.below af);have an:=Fl es lv x;have aZ:=sw sh (f9 es lv x);have b0:=z8 sh (f9 es lv x);have aF:(dc sh (f9 es lv x)).length=(ck sh (f9 es lv x)).length:=by omega
 have aE:(ck sh (f9 es lv x)).length≤400:=by omega
 have a3:Hid _:=af;have ad:Hid (mm _ _ _ _ _):=a8;have aw:Hid (_=_):=aF;clear hE ht hr hx an aZ b0 aF af a8
 cases hok:okE es lv x
 .rw[hok]at C
  have aH:qf es sh lv x=⟨#[]⟩:=by unfold qf;rw[hok];rfl
  rw[aH];clear hok aH aw aE ad;go_enter func60,ntmps60;go_wp2_with fail;refine C.mono ?_;rintro e w1 ⟨v1,v2,rfl,e1,i1,b1⟩;obtain⟨a1,k1,rfl⟩:=xe e1;obtain⟨a2,k2,rfl⟩:=jq i1;have ar:Hid _:=a3.out.trans (b1.mono a3.out.size);clear C i1 e1 b1;go_wp2;go_ret2;exact⟨rfl,ar.out.alloc ar.out.size _⟩
 .rw[hok]at C
  obtain⟨_,bb,bc⟩:=nn (ui hok).2.2;obtain⟨n,rfl⟩:∃ n:Nat,lv=(n:Int):=⟨lv.toNat,by omega⟩
  rw[ao0 hok,Int.toNat_natCast];have aa:=fun l=>aq9 (lv:=l) (sh:=sh) (a90 (es:=es) (lv:=(n:Int)) (x:=x))
  have aT:Hid (∀ l,∀ m ∈ wts l (ck sh (f9 es n x)) (dc sh (f9 es n x)),1≤m∧m≤65535):=aa;have aq:=fun l=>ox l (ck sh (f9 es n x)) (dc sh (f9 es n x)) (ck sh (f9 es n x)).length
  have a9:=fun l=>Nq (ck sh (f9 es n x)) (dc sh (f9 es n x)) l
  clear hok aa;generalize ck sh (f9 es n x)=xs at *;generalize dc sh (f9 es n x)=fs at *;have aV:Hid (∀ l,(wts l xs fs).length≤400):=fun l=>Nat.le_trans (aq l) aE
  have aQ:Hid (∀ l,l≤4→(km xs fs l).length≤3208):=fun l hl=>Nat.le_trans (a9 l) (Nat.le_trans (Nat.mul_le_mul hl (show 2+2*xs.length≤802 by omega)) (by omega))
  clear aq a9;obtain⟨W0,ae⟩:∃ W0,Hid (W0=w.alloc (.cells #[.slice va es.length vc,.bool sh,.int .i64 n] 56)):=⟨_,rfl⟩
  have ap:w.heap.size<W0.heap.size:=by rw[ae.out];simp
  rw[<- ae.out]at a3 ad C;go_enter func60,ntmps60;go_wp2_with fail;rw[<- ae.out];refine C.mono ?_;rintro e w1 ⟨v1,v2,rfl,e1,i1,b1⟩;obtain⟨a1,k1,rfl⟩:=xe e1;obtain⟨a2,k2,rfl⟩:=jq i1;have a7:Below w1.heap.size w1 (w1.alloc (.cells #[.slice a1 xs.length k1,.slice a2 fs.length k2] 170)):=bY _;have av:Hid (ah _ _ _ _):=e1.below a7;have ax:Hid (ab _ _ _ _):=i1.below a7;have ai:Hid (yr (w1.alloc (.cells #[.slice a1 xs.length k1,.slice a2 fs.length k2] 170)) w1.heap.size (.slice a1 xs.length k1) (.slice a2 fs.length k2)):=heap_alloc_new w1 _;have aj:Hid (mm (w1.alloc (.cells #[.slice a1 xs.length k1,.slice a2 fs.length k2] 170)) w.heap.size (.slice va es.length vc) sh n):=(ad.out.below b1 ap).below a7 (by have:=b1.size;omega)
  have ag:Hid (Below w.heap.size w (w1.alloc (.cells #[.slice a1 xs.length k1,.slice a2 fs.length k2] 170))):=(a3.out.trans (b1.mono a3.out.size)).trans (a7.mono (a3.out.trans (b1.mono a3.out.size)).size);have bg:w.heap.size<w1.heap.size:=by have:=b1.size;omega
  clear C i1 e1 b1 a7 ad a3 ae;obtain⟨W,HW⟩:∃ W,Hid (W=w1.alloc (.cells #[.slice a1 xs.length k1,.slice a2 fs.length k2] 170)):=⟨_,rfl⟩
  have aD:w1.heap.size<W.heap.size:=by rw[HW.out];simp
  rw[<- HW.out]at av ax ai aj ag;go_wp2_with fail;rw[<- HW.out];go_loopw [8,9] (fun v8 v9 wr=>ay5 W xs fs n v8 v9 wr) (fun _ v9 _=>n+1-(intOf v9).toNat)
  case atStart=>exact⟨0,by omega,rfl,World.ownsRow_nil _ _ _ _,bX⟩
  case round =>
   clear HW;obtain⟨l,hl,rfl,hK,a0⟩:=hrel;obtain⟨c0,c1,c2⟩:=(aj.out.below a0 (by omega)).cells;have al:=ai.out.below a0 aD;obtain⟨d0,d1,_⟩:=al.cells;have a9:=aQ.out l (by omega);have bf:=a0.size;by_cases bd:l<n
   .have b3:(l:Int)+1≤(n:Int):=by omega
    have HK:Hid (Bys _ _ _ _):=hK;have a6:Hid _:=a0;clear hK a0;go_upto_if 27 with fail
    go_cut [8] from 20 to 47 (fun v8 wx=>Bys wx W.heap.size v8 (km xs fs l++ml (l+1))∧Below W.heap.size W wx)
    case first =>
     by_cases h0:l=0
     .subst h0
      go_wp2;go_meet
      case rel=>exact⟨by simpa [ml] using HK.out,a6.out⟩
     .have b9:(1:Int)<(l:Int)+1:=by omega
      have hs:ml (l+1)=[0,0]:=by unfold ml;rw[if_pos (by omega)]
      have HS:Hid _:=hs;have hK:=HK.out;unfold Bys at hK;clear hs;go_wp2_with (at_builtin;refine wpList_append_own _ rfl _ _ 22 rfl W.heap.size 5 i0 (.int .u8 0) 1 1 underlying22 hi0 aM aK aL rfl (by decide) _ _ _ rfl (hK.alloc _) ⟨wr.heap.size,0,none⟩ 2 2 [.int .u8 0,.int .u8 0] rfl rfl (y8 _ _ _ _ _ (by simp)) (fun u hu=>by simp at hu;subst hu;rfl) (by unfold maxLen;omega) (by omega) (by simp;omega) ?_)
      intro v4 w4 aI aG _;have aB:Bys w4 W.heap.size v4 (km xs fs l++[0,0]):=Bys.app2 aI;have aW:Below W.heap.size W w4:=Below.grown (a6.out.alloc a6.out.size _) aG (a6.out.alloc a6.out.size _).size (fun j hj=>(World.ownsRow.lt hK j hj).1);have aN:Hid (Bys _ _ _ _):=aB;clear aI aG hK aB;go_wp2;go_meet
      case rel=>exact⟨by rw[HS.out];exact aN.out,aW⟩
    case rest =>
     obtain⟨hK,a0⟩:=hcut;clear HK a6 c0 c1 c2 d0 d1 al;obtain⟨c0,c1,c2⟩:=(aj.out.below a0 (by omega)).cells;obtain⟨d0,d1,_⟩:=(ai.out.below a0 aD).cells;have b4:=a0.size;have b7:w1.heap.size<wc.heap.size:=by omega
     have WT:=Pv (l+1) (by omega) (by omega) (av.out.below a0) (ax.out.below a0) aw.out (by omega);have aq:=aV.out (l+1);have be:(km xs fs l++ml (l+1)).length≤3210:=by
      have:(ml (l+1)).length≤2:=by unfold ml;split <;> simp
      rw[List.length_append];omega
     have aS:Hid (km xs fs (l+1)=(km xs fs l++ml (l+1))++j9 (wts (l+1) xs fs)):=by show _=_;rw[km,List.append_assoc]
     have aa:=aT.out (l+1);have az:Hid (Bys _ _ _ _):=hK;have a4:Hid _:=a0;generalize km xs fs l++ml (l+1)=pre at *;generalize wts (l+1) xs fs=ws at *;have aU:Hid (∀ m ∈ ws,1≤m∧m≤65535):=aa;clear hK a0 aa;rw[Int.natCast_add]at WT;go_wp2_with fail;refine WT.mono ?_;rintro e w5 ⟨v5,rfl,i5,b5⟩;obtain⟨a5,k5,rfl⟩:=jq i5;have aA:Hid (Bys _ _ _ _):=az.out.below b5;have au:Hid _:=a4.out.trans (b5.mono a4.out.size);have ay:Hid (ab _ _ _ _):=i5;clear WT i5 b5 az a4 c0 c1 c2 d0 d1;go_wp2_with fail;go_loopw [8,35] (fun v8 i wr=>ay4 W wc.heap.size (.slice a5 ws.length k5) pre ws v8 i wr) (fun _ i _=>ws.length-(intOf i).toNat)
     case atStart=>exact⟨0,Nat.zero_le _,rfl,by rw[List.take_zero,Jj,List.append_nil];exact aA.out,ay.out,au.out⟩
     case round =>
      clear aA ay au;obtain⟨k,hk,rfl,hK,hI,a0⟩:=hrel;by_cases ao:k<ws.length
      .obtain⟨y,hy⟩:∃ y,ws[k]? = some y:=⟨_,List.getElem?_eq_getElem ao⟩
       have b8:=aU.out y (List.mem_of_getElem? hy);have HT:Hid _:=ai4 hy pre;obtain⟨g5,rfl,c5⟩:∃ g5,a5=some ⟨g5,0,none⟩∧wr.cell? ⟨g5,k,none⟩=some (.int .i64 y):=by
        rcases hI.form with ⟨_,h2⟩|⟨g,cap,h,_,_⟩
        .subst h2;simp at ao
        .injection h with h1 _ h3
         subst h1;subst h3;refine⟨g,rfl,?_⟩;have:=hI.cell k ao;rw[hy]at this;exact this
       have ba:(k:Int)<(ws.length:Int):=by omega
       obtain⟨bh,bi⟩:=b8;have aY:(pre++j9 (ws.take k)).length≤4100:=by rw[List.length_append,C4,List.length_take];omega
       have b6:=a0.size;have HI:Hid (ab _ _ _ _):=hI;obtain⟨cur,ak⟩:∃ cur,Hid (pre++j9 (ws.take k)=cur):=⟨_,rfl⟩
       rw[ak.out]at hK HT aY;unfold Bys at hK;clear hy hI;go_wp2_with (at_builtin;refine wpList_append_own _ rfl _ _ 22 rfl W.heap.size 5 i0 (.int .u8 0) 1 1 underlying22 hi0 aM aK aL rfl (by decide) _ _ _ rfl (hK.alloc _) ⟨wr.heap.size,0,none⟩ 2 2 [.int .u8 (y / 256),.int .u8 (y % 256)] rfl rfl (y8 _ _ _ _ _ (by simp)) (fun u hu=>by simp at hu;rcases hu with rfl|rfl <;> rfl) (by unfold maxLen;omega) (by omega) (by simp;omega) ?_)
       intro v6 w6 aJ am _;have aC:Bys w6 W.heap.size v6 (cur++[y / 256,y % 256]):=Bys.app2 aJ;have aX:Below W.heap.size W w6:=Below.grown (a0.alloc a0.size _) am (a0.alloc a0.size _).size (fun j hj=>(World.ownsRow.lt hK j hj).1);have aR:Hid (ab w6 wc.heap.size (.slice (some ⟨g5,0,none⟩) ws.length k5) ws):=World.ownsRow.kept (World.ownsRow.alloc HI.out _) am (dg HI.out hK (by decide));have aO:Hid (Bys _ _ _ _):=aC;clear aJ am hK aC HI c5 a0;go_wp2;exact⟨⟨k+1,by omega,by go_num,by rw[HT.out];exact aO.out,aR.out,aX⟩,by simp[intOf];omega⟩
      .have a9:k=ws.length:=by omega
       subst a9;have aP:Hid (Bys wr W.heap.size u8 (km xs fs (l+1))):=by show Bys _ _ _ _;rw[aS.out];rw[List.take_length]at hK;exact hK
       clear hK hI;go_wp2;go_roundw
       case rel=>exact⟨l+1,by omega,by go_num,aP.out,a0⟩
       case measure=>simp[intOf];omega
   .have b2:l=n:=by omega
    subst b2;have CV:=xb hK;clear hK c0 c1 d0 d1 al;go_wp2;go_ret2;exact⟨rfl,ag.out.trans (a0.mono ag.out.size)⟩
theorem a99 {es:List Ent} {sh:Bool} {lv:Int} {x:ByteArray}:rf es sh lv x=wts 1 (ck sh (f9 es lv x)) (dc sh (f9 es lv x)):=by
 unfold rf f9;split
 .rfl
 .rfl
theorem zu {w:World} {B:Nat} {ve:Value} {es:List Ent} {sh:Bool} {lv:Int}(x:ByteArray) (hx:x.size≤1048576) (hE:ac w B ve es) (hr:∀ e ∈ es,e.runes.length≤1048576) (ht:dr w) :
  Calls prog 63 #[.agg #[ve,.bool sh,.int .i64 lv],.string x] w fun e w'=>∃ v,e=.returned (.tuple #[v,.bool (okE es lv x)])∧ab w' w.heap.size v (rf es sh lv x)∧Below w.heap.size w w':=by
 obtain⟨va,vc,rfl⟩:∃ a c,ve=.slice a es.length c:=by
  rcases hE.form with ⟨rfl,rfl⟩|⟨_,_,rfl,_,_,_,_⟩
  .exact⟨_,_,rfl⟩
  .exact⟨_,_,rfl⟩
 have a5:Below w.heap.size w (w.alloc (.cells #[.slice va es.length vc,.bool sh,.int .i64 lv] 56)):=bY _;have C:=Jo (sh:=sh) (lv:=lv) x hx (hE.below a5) hr (ht.below a5);have a8:=Fl es lv x;rw[a99];have af:=sw sh (f9 es lv x);have ag:=z8 sh (f9 es lv x);have a3:Hid _:=a5;have ad:(dc sh (f9 es lv x)).length=(ck sh (f9 es lv x)).length:=by omega
 have aa:(ck sh (f9 es lv x)).length≤1048576:=by omega
 have a9:Hid (_=_):=ad;clear hE ht hr hx a8 af ag ad a5
 cases hok:okE es lv x
 .rw[hok]at C
  have a7:f9 es lv x=[]:=by unfold f9;rw[hok];rfl
  rw[a7,yx,zc]at C;rw[a7,yx,zc];clear hok a7 a9 aa;go_enter func63,ntmps63;go_wp2_with fail;refine C.mono ?_;rintro e w1 ⟨v1,v2,rfl,e1,i1,b1⟩;obtain⟨a1,k1,rfl⟩:=xe e1;obtain⟨a2,k2,rfl⟩:=jq i1;have a0:Hid _:=a3.out.trans (b1.mono a3.out.size);clear C i1 e1 b1;go_wp2;go_ret2;exact⟨_,rfl,⟨rfl,.inl ⟨rfl,rfl⟩⟩,a0.out.alloc a0.out.size _⟩
 .rw[hok]at C
  clear hok;generalize ck sh (f9 es lv x)=xs at *;generalize dc sh (f9 es lv x)=fs at *;go_enter func63,ntmps63;go_wp2_with fail;refine C.mono ?_;rintro e w1 ⟨v1,v2,rfl,e1,i1,b1⟩;obtain⟨a1,k1,rfl⟩:=xe e1;obtain⟨a2,k2,rfl⟩:=jq i1;have a0:Hid _:=a3.out.trans (b1.mono a3.out.size);have a4:Below w1.heap.size w1 (w1.alloc (.cells #[.slice a1 xs.length k1,.slice a2 fs.length k2] 170)):=bY _;have WT:=Dg (e1.below a4) (i1.below a4) a9.out aa;have a6:Hid _:=a0.out.trans (a4.mono a0.out.size);clear C i1 e1 b1 a4;go_wp2_with fail;refine WT.mono ?_;rintro e w3 ⟨v3,rfl,i3,b3⟩;have ae:Hid (ab _ _ _ _):=i3;clear WT i3;go_wp2;go_ret2;exact⟨_,rfl,sj ae.out a6.out.size,a6.out.trans (b3.mono a6.out.size)⟩
end Go.Proofs.YtjbmgghehdemdaaGreatDoor
