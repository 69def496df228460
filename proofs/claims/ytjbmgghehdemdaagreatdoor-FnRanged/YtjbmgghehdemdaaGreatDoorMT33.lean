/- SRead -/
import Derived.Test.YtjbmgghehdemdaaGreatDoorMT32
namespace Go.Proofs.YtjbmgghehdemdaaGreatDoor
set_option maxRecDepth 100000
set_option maxHeartbeats 16000000
open _root_.Go.Proofs.Tryz
open Go.RowKit
def az1 (w:World) (ws:List ByteArray) (vw:Value) (br bl:Nat) (ans:Except Int RS) (rv iv:Value) (wr:World):Prop :=
 ∃ (k:Nat) (st:RS) (vE:Value),k≤ws.length∧iv=.int .i64 k∧rv=.bool st.reset∧bf (ws.drop k) st=ans∧gj st∧StM w wr ws vw br bl st vE
theorem b06 (w:World) (o:Obj):(w.alloc o).heap.size=w.heap.size+1:=by simp
def aj (c:Int):Value:=.tuple #[.agg #[.slice none 0 0,.bool false,.int .i64 0],.int .i64 c]
theorem bm {w wr:World}(h:Below w.heap.size w wr) (x y z:Value):Below w.heap.size w (((wr.setCell ⟨w.heap.size,0,none⟩ x).setCell ⟨w.heap.size,1,none⟩ y).setCell ⟨w.heap.size,2,none⟩ z) :=
 ((h.setCell bR _).setCell bR _).setCell bR _
def Gi (w:World) (a:RA) (e:Ending) (w':World):Prop :=
 ∃ vE,e=.returned (.tuple #[.agg #[vE,.bool a.sh,.int .i64 a.lv],.int .i64 a.code])∧ac w' w.heap.size vE a.es∧Below w.heap.size w w'
theorem bn {w wr:World} {ans:Except Int RS} {c:Int}(h:ans=.error c) (hb:Below w.heap.size w wr):Gi w (Wb ans) (.returned (aj c)) wr:=by
 subst h;exact⟨_,rfl,ac.nil _ _,hb⟩
theorem a23 (s:ByteArray) (w:World) (h:300<s.size) (hs:s.size≤1073741824):Calls prog 23 #[.string s] w fun e w'=>Gi w (aa s) e w':=by
 have h2:(300:Int)<(s.size:Int):=by omega
 have hA:aa s=⟨[],false,0,1⟩:=if_pos h;rw[hA];go_enter func23,ntmps23;go_wp2;refine bodyPost_ret (v:=aj 1) ?_ rfl ⟨_,rfl,ac.nil _ _,bY _⟩;rw[results_cell_tmp rfl];unfold aj;go_simp
theorem a15 (w:World):Calls prog 54 #[] w fun e w'=>e=.returned (.agg #[.slice none 0 0,.bool false,.int .i64 3])∧Below w.heap.size w w':=by
 go_enter func54,ntmps54;go_wp2;refine bodyPost_ret (v:=.agg #[.slice none 0 0,.bool false,.int .i64 3]) ?_ rfl ⟨rfl,bY _⟩;rw[av rfl];go_simp
theorem b19 {u:World} {b2 br bl:Nat} {vE:Value} {sh:Bool} {lv:Int} {e:El}(hl:b2<br∧br<bl) (h2:u.heap[b2]? = some (.cells #[.slice none 0 0,.bool false,.int .i64 0] 56))
  (hr:u.heap[br]? = some (.cells #[vE,.bool sh,.int .i64 lv] 56)) (a0:u.heap[bl]? = some (.cells #[.int .i64 e.first,.int .i64 e.second,.int .i64 e.third,.bool e.varies] 111)):RB u b2 br bl vE sh lv e :=
 ⟨⟨hl.1,hl.2,(Array.getElem?_eq_some_iff.1 a0).1⟩,⟨cell_of_row _ _ 0 _ _ _ h2,cell_of_row _ _ 1 _ _ _ h2,cell_of_row _ _ 2 _ _ _ h2⟩,⟨cell_of_row _ _ 0 _ _ _ hr,cell_of_row _ _ 1 _ _ _ hr,cell_of_row _ _ 2 _ _ _ hr⟩,
  ⟨cell_of_row _ _ 0 _ _ _ a0,cell_of_row _ _ 1 _ _ _ a0,cell_of_row _ _ 2 _ _ _ a0,cell_of_row _ _ 3 _ _ _ a0⟩,fun j=>by simp[World.frozen?,h2],fun j=>by simp[World.frozen?,hr],fun j=>by simp[World.frozen?,a0]⟩
theorem av9 {w2:World} {b2:Nat}(h:w2.heap[b2]? = some (.cells #[.slice none 0 0,.bool false,.int .i64 0] 56)) :
  RB ((w2.alloc (.cells #[.slice none 0 0,.bool false,.int .i64 3] 56)).alloc (.cells #[.int .i64 0,.int .i64 0,.int .i64 0,.bool false] 111)) b2 w2.heap.size (w2.heap.size+1) (.slice none 0 0) false 3 ⟨0,0,0,false⟩:=by
 have hb:=((Below.refl w2.heap.size w2).alloc bR (.cells #[.slice none 0 0,.bool false,.int .i64 3] 56)).alloc (by simp) (.cells #[.int .i64 0,.int .i64 0,.int .i64 0,.bool false] 111);have a0:=(Array.getElem?_eq_some_iff.1 h).1;refine b19 ⟨a0,Nat.lt_succ_self _⟩ ?_ ?_ (heap_alloc2_new w2 _ _)
 .rw[hb.block _ a0];exact h
 .rw[Below.heap_alloc _ _ _ (by simp)];exact heap_alloc_new w2 _
theorem a21 (st:RS):bf [] st=.ok st:=by unfold bf;rfl
theorem Iq {ws:List ByteArray} {k:Nat} {x:ByteArray}(h:ws[k]? = some x):ws.drop k=x::ws.drop (k+1):=by
 obtain⟨hk,rfl⟩:=List.getElem?_eq_some_iff.1 h;exact List.drop_eq_getElem_cons hk
theorem Ro {x:ByteArray} {ws:List ByteArray} {st:RS}(h:(x.toList == jl)=true):bf (x::ws) st=bf ws { st with sh:=true }:=by
 rw[bf.eq_def];simp only;rw[if_pos h]
theorem Wf {x:ByteArray} {st:RS}(h1:(x.toList == jl)=false) (h2:(x.toList == jp)=true):bf [x] st=.error 2:=by
 rw[bf.eq_def];simp only;rw[if_neg (by simp[h1]),if_pos h2]
theorem wa {x y:ByteArray} {ws:List ByteArray} {st:RS}(h1:(x.toList == jl)=false) (h2:(x.toList == jp)=true) (h3:rk y=none):bf (x::y::ws) st=.error 2:=by
 rw[bf.eq_def];simp only;rw[if_neg (by simp[h1]),if_pos h2,h3]
theorem Wg {x y:ByteArray} {ws:List ByteArray} {st:RS} {n:Int}(h1:(x.toList == jl)=false) (h2:(x.toList == jp)=true) (h3:rk y=some n):bf (x::y::ws) st=bf ws { st with lv:=n }:=by
 rw[bf.eq_def];simp only;rw[if_neg (by simp[h1]),if_pos h2,h3]
theorem Wh {x:ByteArray} {ws:List ByteArray} {st:RS}(h1:(x.toList == jl)=false) (h2:(x.toList == jp)=false) (h3:ma x=none):bf (x::ws) st=.error 2:=by
 rw[bf.eq_def];simp only;rw[if_neg (by simp[h1]),if_neg (by simp[h2]),h3]
theorem Wi {x:ByteArray} {st:RS} {lev:Nat}(h1:(x.toList == jl)=false) (h2:(x.toList == jp)=false) (h3:ma x=some lev):bf [x] st=.error 2:=by
 rw[bf.eq_def];simp only;rw[if_neg (by simp[h1]),if_neg (by simp[h2]),h3]
theorem Wj {x y:ByteArray} {ws:List ByteArray} {st:RS} {lev:Nat}(h1:(x.toList == jl)=false) (h2:(x.toList == jp)=false) (h3:ma x=some lev) (h4:200<y.size):bf (x::y::ws) st=.error 2:=by
 rw[bf.eq_def];simp only;rw[if_neg (by simp[h1]),if_neg (by simp[h2]),h3];simp only;rw[if_pos h4]
theorem fi {x y:ByteArray} {ws:List ByteArray} {st:RS} {lev:Nat} {c:Int}(h1:(x.toList == jl)=false) (h2:(x.toList == jp)=false) (h3:ma x=some lev) (h4:¬ 200<y.size) (h5:d8 st lev (nD (Dec.decT y.size y).1)=.error c):bf (x::y::ws) st=.error c:=by
 rw[bf.eq_def];simp only;rw[if_neg (by simp[h1]),if_neg (by simp[h2]),h3];simp only;rw[if_neg h4,h5]
theorem wd {x y:ByteArray} {ws:List ByteArray} {st st':RS} {lev:Nat}(h1:(x.toList == jl)=false) (h2:(x.toList == jp)=false) (h3:ma x=some lev) (h4:¬ 200<y.size) (h5:d8 st lev (nD (Dec.decT y.size y).1)=.ok st'):bf (x::y::ws) st=bf ws st':=by
 rw[bf.eq_def];simp only;rw[if_neg (by simp[h1]),if_neg (by simp[h2]),h3];simp only;rw[if_neg h4,h5]
theorem Rc {x:ByteArray} {lev:Nat}(h:ma x=some lev):(lev=0∧(x.toList == [38])=true)∨(lev=1∧(x.toList == [38])=false∧(x.toList == [60])=true)∨(lev=2∧(x.toList == [38])=false∧(x.toList == [60])=false∧(x.toList == [60,60])=true) ∨
  (lev=3∧(x.toList == [38])=false∧(x.toList == [60])=false∧(x.toList == [60,60])=false∧(x.toList == [60,60,60])=true):=by
 unfold ma at h
 cases d0:(x.toList == [38]) <;> rw[d0]at h
 .cases d1:(x.toList == [60]) <;> rw[d1]at h
  .cases d2:(x.toList == [60,60]) <;> rw[d2]at h
   .cases d3:(x.toList == [60,60,60]) <;> rw[d3]at h
    .simp at h
    .simp at h;subst h;simp
   .simp at h;subst h;simp
  .simp at h;subst h;simp
 .simp at h;subst h;simp
theorem Cs {u:World} {B b:Nat} {v:Value} {l:List Int}(h:ab u B v l) (hb:b+1≤B):v.ownBlock=none∨v.ownBlock≠some b:=by
 cases e:v.ownBlock with
 | none=>exact .inl rfl
 | some g =>
  refine .inr fun c=>?_
  have:=(World.ownsRow.lt h g e).1
  cases c
  omega
theorem Mq {ws:List ByteArray} {k:Nat}(h:ws.length≤k):ws.drop k=[]:=List.drop_eq_nil_of_le h
theorem ac2 {y:ByteArray}(h:y.size=2∧49≤Dec.bt y 0∧Dec.bt y 0≤52∧Dec.bt y 1=93):rk y=some ((Dec.bt y 0:Int)-48):=if_pos h
theorem Du {y:ByteArray}(h:¬ (y.size=2∧49≤Dec.bt y 0∧Dec.bt y 0≤52∧Dec.bt y 1=93)):rk y=none:=if_neg h
theorem yi {st:RS} {lev:Nat} {l:List Int}(h:bd l=false):d8 st lev l=.error 2:=if_pos h
theorem Oh {st:RS} {l:List Int}(h:bd l=true) (h2:fj st.es l=none):d8 st 0 l=.error 3:=by
 unfold d8;rw[if_neg (by simp[h]),if_pos rfl,h2]
theorem Oi {st:RS} {l:List Int} {e:El}(h:bd l=true) (h2:fj st.es l=some e) (h3:e.varies=true):d8 st 0 l=.error 3:=by
 unfold d8;rw[if_neg (by simp[h]),if_pos rfl,h2];simp only;rw[if_pos h3]
theorem Cw {st:RS} {l:List Int} {e:El}(h:bd l=true) (h2:fj st.es l=some e) (h3:e.varies=false):d8 st 0 l=.ok { st with last:=e,reset:=true }:=by
 unfold d8;rw[if_neg (by simp[h]),if_pos rfl,h2];simp only;rw[if_neg (by simp[h3])]
theorem zg {st:RS} {lev:Nat} {l:List Int}(h:bd l=true) (hl:lev≠0) (hr:st.reset=false):d8 st lev l=.error 3:=by
 unfold d8;rw[if_neg (by simp[h]),if_neg hl,if_pos hr]
theorem zh {st:RS} {lev:Nat} {l:List Int}(h:bd l=true) (hl:lev≠0) (hr:st.reset=true) (ha:0≤atE st.es l):d8 st lev l=.error 4:=by
 unfold d8;rw[if_neg (by simp[h]),if_neg hl,if_neg (by simp[hr]),if_pos ha]
theorem Cv {st:RS} {lev:Nat} {l:List Int}(h:bd l=true) (hl:lev≠0) (hr:st.reset=true) (ha:¬ 0≤atE st.es l):d8 st lev l=if ay (st.es++[⟨l,gk st.es st.last lev⟩]) st.lv=true then .ok { st with es:=st.es++[⟨l,gk st.es st.last lev⟩],last:=gk st.es st.last lev } else .error 5:=by
 unfold d8;rw[if_neg (by simp[h]),if_neg hl,if_neg (by simp[hr]),if_neg ha]
theorem Wk (s:ByteArray) (w:World) (hs:s.size≤300):Calls prog 23 #[.string s] w fun e w'=>Gi w (aa s) e w':=by
 have h2:¬ (300:Int)<(s.size:Int):=by omega
 have hA:aa s=Wb (bf (rx s) rs0):=if_neg (by omega);rw[hA];clear hA;have W:=fun w=>a62 s w (by omega)
 have bE:(rx s).length≤301:=Nat.le_trans (L0 s (s.size+1)).1 (by omega);generalize rx s=ws at *;obtain⟨ans,aG⟩:∃ ans,Hid (bf ws rs0=ans):=⟨_,rfl⟩
 rw[aG.out];go_enter func23,ntmps23;go_wp2_with fail;refine (W _).mono ?_;rintro e w1 ⟨vw,rfl,bp,b1⟩;have bk:=((Below.refl w.heap.size w).alloc bR (.cells #[.slice none 0 0,.bool false,.int .i64 0] 56)).trans (b1.mono (by simp));have P:=fun w=>a15 w
 have ba:Hid _:=bk;have bj:Hid (ak _ _ _ _):=bp;have b8:Hid (w1.heap[w.heap.size]? = some (.cells #[.slice none 0 0,.bool false,.int .i64 0] 56)):=by
  show _=_
  rw[b1.block _ (by simp)];exact heap_alloc_new w _
 clear bk b1 bp W;go_wp2_with fail;refine (P _).mono ?_;rintro e w2 ⟨rfl,b2⟩;clear P;have aN:=(Array.getElem?_eq_some_iff.1 b8.out).1;have bo:StM w ((w2.alloc (.cells #[.slice none 0 0,.bool false,.int .i64 3] 56)).alloc (.cells #[.int .i64 0,.int .i64 0,.int .i64 0,.bool false] 111)) ws vw w2.heap.size (w2.heap.size+1) rs0 (.slice none 0 0):=by
  have aX:=ba.out.trans (b2.mono ba.out.size);have b9:=bj.out.below b2;rw[b06]at b9;exact⟨av9 (by rw[b2.block _ aN];exact b8.out),ac.nil _ _,b9.below (((Below.refl w2.heap.size w2).alloc bR _).alloc (by simp) _),fun g e=>(World.ownsRow.lt b9 g e).2,(aX.alloc aX.size _).alloc (aX.alloc aX.size _).size _⟩
 have aZ:Hid _:=bo;clear ba b2 b8 aN bj bo;obtain⟨aw,cw,rfl⟩:∃ aw cw,vw=.slice aw ws.length cw:=by
  rcases aZ.out.sr.form with ⟨rfl,rfl⟩|⟨g,cap,rfl,_,_⟩
  .exact⟨_,_,rfl⟩
  .exact⟨_,_,rfl⟩
 go_wp2_with fail;go_loopw [7,8] (fun rv iv wr=>az1 w ws (.slice aw ws.length cw) w2.heap.size (w2.heap.size+1) ans rv iv wr) (fun _ iv _=>ws.length-(intOf iv).toNat)
 case atStart=>exact⟨0,rs0,_,Nat.zero_le _,rfl,rfl,by rw[List.drop_zero];exact aG.out,Wq,aZ.out⟩
 case round =>
  clear aZ aG;obtain⟨k,st,vE,hk,rfl,rfl,hR,hI,hM⟩:=hrel;have HR:Hid (bf (ws.drop k) st=ans):=hR;have HI:Hid (gj st):=hI;have HM:Hid (StM w wr ws _ _ _ st vE):=hM;clear hR hI hM;obtain⟨ae,ce,rfl⟩:∃ a c,vE=.slice a st.es.length c:=by
   rcases HM.out.en.form with ⟨h,h'⟩|⟨g,cap,rfl,_,_,_,_⟩
   .exact⟨none,0,by rw[h,h'];rfl⟩
   .exact⟨_,_,rfl⟩
  have a2:=HM.out.be;obtain⟨⟨l1,l2,l3⟩,⟨q0,q1,q2⟩,⟨r0,r1,r2⟩,_,f2,fr,_⟩:=HM.out.rb;by_cases bg:k<ws.length
  .obtain⟨x,hx⟩:∃ x,ws[k]? = some x:=⟨_,List.getElem?_eq_getElem bg⟩
   obtain⟨gw,rfl⟩:∃ g,aw=some ⟨g,0,none⟩:=by
    rcases HM.out.sr.form with ⟨_,rfl⟩|⟨g,cap,h,_,_⟩
    .simp at bg
    .injection h with h _ _;exact⟨g,h⟩
   have aY:=HM.out.sr.cell k x hx;have bC:(k:Int)<(ws.length:Int):=by omega
   have bq:=Iq hx;have al:Hid (bf (x::ws.drop (k+1)) st=ans):=by show _=_;rw[<- bq];exact HR.out
   clear HR bq hx
   cases c1:(x.toList == jl)
   .cases c2:(x.toList == jp)
    .cases c3:ma x with
     | none =>
      have a1:Hid (ans=.error 2):=by show _=_;rw[<- al.out,Wh c1 c2 c3]
      unfold ma at c3
      cases d0:(x.toList == [38])
      .rw[d0]at c3
       cases d1:(x.toList == [60])
       .rw[d1]at c3
        cases d2:(x.toList == [60,60])
        .rw[d2]at c3
         cases d3:(x.toList == [60,60,60])
         .clear c3 al
          unfold jl at c1;unfold jp at c2;go_wp2;refine bodyPost_ret (v:=aj 2) ?_ rfl (bn a1.out (bm a2 _ _ _));rw[results_cell_tmp rfl];unfold aj;go_simp
         .rw[d3]at c3;simp at c3
        .rw[d2]at c3;simp at c3
       .rw[d1]at c3;simp at c3
      .rw[d0]at c3;simp at c3
     | some lev =>
      have C1:Hid _:=c1;have C2:Hid _:=c2;have C3:Hid _:=c3;have bb:=Rc c3;unfold jl at c1;unfold jp at c2;clear c3;by_cases aD:k+1<ws.length
      .obtain⟨y,hy⟩:∃ y,ws[k+1]? = some y:=⟨_,List.getElem?_eq_getElem aD⟩
       have aL:=HM.out.sr.cell (k+1) y hy;have a0:Hid (bf (x::y::ws.drop (k+1+1)) st=ans):=by show _=_;rw[<- Iq hy];exact al.out
       have he:((k:Int)+1 == (ws.length:Int))=false:=by simp;omega
       have bx:(k:Int)+1<(ws.length:Int):=by omega
       clear hy al;by_cases af:200<y.size
       .have a1:Hid (ans=.error 2):=by show _=_;rw[<- a0.out,Wj C1.out C2.out C3.out af]
        have bi:(200:Int)<(y.size:Int):=by omega
        clear a0 HM C1 C2 C3;rcases bb with ⟨_,d0⟩|⟨_,d0,d1⟩|⟨_,d0,d1,d2⟩|⟨_,d0,d1,d2,d3⟩
        .go_wp2
         refine bodyPost_ret (v:=aj 2) ?_ rfl (bn a1.out (bm a2 _ _ _));rw[results_cell_tmp rfl];unfold aj;go_simp
        .go_wp2
         refine bodyPost_ret (v:=aj 2) ?_ rfl (bn a1.out (bm a2 _ _ _));rw[results_cell_tmp rfl];unfold aj;go_simp
        .go_wp2
         refine bodyPost_ret (v:=aj 2) ?_ rfl (bn a1.out (bm a2 _ _ _));rw[results_cell_tmp rfl];unfold aj;go_simp
        .go_wp2
         refine bodyPost_ret (v:=aj 2) ?_ rfl (bn a1.out (bm a2 _ _ _));rw[results_cell_tmp rfl];unfold aj;go_simp
       .have az:=fun w=>Cg y w (by omega)
        have bB:=(Dec.decT_len y.size y bR).1;have bi:¬ (200:Int)<(y.size:Int):=by omega
        have bD:(nD (Dec.decT y.size y).1).length≤1800:=by rw[zw];have:=zj (Dec.decT y.size y).1;omega
        rcases bb with ⟨rfl,d0⟩|⟨rfl,d0,d1⟩|⟨rfl,d0,d1,d2⟩|⟨rfl,d0,d1,d2,d3⟩
        .go_wp2_with fail
         refine (az _).mono ?_;rintro e w3 ⟨v3,rfl,i3,b3⟩;have D:=Dr (zs:=(Dec.decT y.size y).1) (by omega) i3;have am:Hid _:=HM.out.step b3;have av:Hid (w2.heap.size+1+1≤w3.heap.size):=by show _≤_;have:=b3.size;omega
         clear az HM q0 q1 q2 r0 r1 r2 f2 fr aY aL a2 l1 l2 l3 b3 i3;go_wp2_with fail;refine D.mono ?_;rintro e w4 ⟨v4,rfl,i4,b4⟩;have an:Hid _:=am.out.step b4;have ah:=fe i4 av.out;clear D am b4 av i4;generalize hl4:nD (Dec.decT y.size y).1=l at *;have a5:Hid _:=hl4;clear hl4;obtain⟨a4,c4,rfl⟩:∃ a c,v4=.slice a l.length c:=by
          rcases ah.form with ⟨rfl,rfl⟩|⟨g,cap,rfl,_,_⟩
          .exact⟨_,_,rfl⟩
          .exact⟨_,_,rfl⟩
         have RN:=rn (by omega) ah;go_wp2_with fail;refine RN.mono ?_;rintro e w5 ⟨rfl,b5⟩;have a3:Hid _:=an.out.step b5;have I5:Hid (ab _ _ _ _):=ah.below b5;clear RN an b5 ah
         cases hro:bd l
         .have a1:Hid (ans=.error 2):=by show _=_;rw[<- a0.out,fi C1.out C2.out C3.out af (by rw[a5.out];exact yi hro)]
          have a2:=a3.out.be;obtain⟨⟨l1,l2,l3⟩,⟨q0,q1,q2⟩,⟨r0,r1,r2⟩,⟨e0,e1,e2,e3⟩,f2,fr,fl⟩:=a3.out.rb;have a8:w.heap.size<w5.heap.size:=by omega
          have a9:w2.heap.size<w5.heap.size:=by omega
          clear a0 a3 C1 C2 C3 I5 a5;go_wp2;refine bodyPost_ret (v:=aj 2) ?_ rfl (bn a1.out (bm a2 _ _ _));rw[results_cell_tmp rfl];unfold aj;go_simp
         .have aI:=eg hro
          have ai:∀ e ∈ st.es,e.runes.length≤1048576:=fun e he=>Nat.le_trans (eg ((cg HI.out.good).2.2 e he).1) (by omega)
          have bc:st.es.length≤40:=(cg HI.out.good).1;have br:=Ov hro;have EL:=Yq (sh:=st.sh) (lv:=st.lv) a3.out.en I5.out (by omega) (by omega) ai br;clear br ai;have a2:=a3.out.be;obtain⟨⟨l1,l2,l3⟩,⟨q0,q1,q2⟩,⟨r0,r1,r2⟩,⟨e0,e1,e2,e3⟩,f2,fr,fl⟩:=a3.out.rb;have a8:w.heap.size<w5.heap.size:=by omega
          have a9:w2.heap.size<w5.heap.size:=by omega
          cases hee:fj st.es l with
          | none =>
           have a1:Hid (ans=.error 3):=by show _=_;rw[<- a0.out,fi C1.out C2.out C3.out af (by rw[a5.out];exact Oh hro hee)]
           rw[hee]at EL;unfold fo elV ph at EL;simp only[Option.getD_none,Option.isSome_none]at EL;clear a0 C1 C2 C3 I5 a5 hee;go_wp2_with fail;refine EL.mono ?_;rintro e w6 ⟨rfl,b6⟩;have a7:Hid _:=a3.out.step b6;clear q0 q1 q2 r0 r1 r2 e0 e1 e2 e3 f2 fr fl a2 l1 l2 l3 a8 a9;have a2:=a7.out.be;obtain⟨⟨l1,l2,l3⟩,⟨q0,q1,q2⟩,⟨r0,r1,r2⟩,⟨e0,e1,e2,e3⟩,f2,fr,fl⟩:=a7.out.rb;have a8:w.heap.size<w6.heap.size:=by omega
           have a9:w2.heap.size<w6.heap.size:=by omega
           clear EL a3 a7 b6;go_wp2;refine bodyPost_ret (v:=aj 3) ?_ rfl (bn a1.out ((bm a2 _ _ _).alloc (by simpa using a2.size) _));rw[results_cell_tmp rfl];unfold aj;go_simp
          | some x0 =>
           rw[hee]at EL;unfold fo elV ph at EL
           cases hv:x0.varies
           .have ax:Hid (bf (ws.drop (k+1+1)) { st with last:=x0,reset:=true }=ans):=by show _=_;rw[<- a0.out,wd C1.out C2.out C3.out af (by rw[a5.out];exact Cw hro hee hv)]
            have aH:Hid (gj { st with last:=x0,reset:=true }):=qr HI.out (Cw hro hee hv);have HV:Hid (x0.varies=false):=hv;simp only[Option.getD_some,Option.isSome_some,hv]at EL;clear a0 C1 C2 C3 I5 a5 hee hv;go_wp2_with fail;refine EL.mono ?_;rintro e w6 ⟨rfl,b6⟩;have a7:Hid _:=a3.out.step b6;clear q0 q1 q2 r0 r1 r2 e0 e1 e2 e3 f2 fr fl a2 l1 l2 l3 a8 a9;have ag:Hid (StM _ _ _ _ _ _ _ _):=(a7.out.setLast x0 true).step (bY (.cells #[.int .i64 x0.first,.int .i64 x0.second,.int .i64 x0.third,.bool x0.varies] 111));rw[HV.out]at ag;unfold mb at ag;rw[HV.out]at ag;have a2:=a7.out.be;obtain⟨⟨l1,l2,l3⟩,⟨q0,q1,q2⟩,⟨r0,r1,r2⟩,⟨e0,e1,e2,e3⟩,f2,fr,fl⟩:=a7.out.rb;have a8:w.heap.size<w6.heap.size:=by omega
            have a9:w2.heap.size<w6.heap.size:=by omega
            clear EL a3 a7 b6 a2;go_wp2;exact⟨⟨k+1+1,{ st with last:=x0,reset:=true },_,aD,by go_num,rfl,ax.out,aH.out,ag.out⟩,by simp[intOf];omega⟩
           .have a1:Hid (ans=.error 3):=by show _=_;rw[<- a0.out,fi C1.out C2.out C3.out af (by rw[a5.out];exact Oi hro hee hv)]
            simp only[Option.getD_some,Option.isSome_some,hv]at EL;clear a0 C1 C2 C3 I5 a5 hee hv;go_wp2_with fail;refine EL.mono ?_;rintro e w6 ⟨rfl,b6⟩;have a7:Hid _:=a3.out.step b6;clear q0 q1 q2 r0 r1 r2 e0 e1 e2 e3 f2 fr fl a2 l1 l2 l3 a8 a9;have a2:=a7.out.be;obtain⟨⟨l1,l2,l3⟩,⟨q0,q1,q2⟩,⟨r0,r1,r2⟩,⟨e0,e1,e2,e3⟩,f2,fr,fl⟩:=a7.out.rb;have a8:w.heap.size<w6.heap.size:=by omega
            have a9:w2.heap.size<w6.heap.size:=by omega
            clear EL a3 a7 b6;go_wp2;refine bodyPost_ret (v:=aj 3) ?_ rfl (bn a1.out ((bm a2 _ _ _).alloc (by simpa using a2.size) _));rw[results_cell_tmp rfl];unfold aj;go_simp
        .go_wp2_with fail
         refine (az _).mono ?_;rintro e w3 ⟨v3,rfl,i3,b3⟩;have D:=Dr (zs:=(Dec.decT y.size y).1) (by omega) i3;have am:Hid _:=HM.out.step b3;have av:Hid (w2.heap.size+1+1≤w3.heap.size):=by show _≤_;have:=b3.size;omega
         clear az HM q0 q1 q2 r0 r1 r2 f2 fr aY aL a2 l1 l2 l3 b3 i3;go_wp2_with fail;refine D.mono ?_;rintro e w4 ⟨v4,rfl,i4,b4⟩;have an:Hid _:=am.out.step b4;have ah:=fe i4 av.out;clear D am b4 av i4;generalize hl4:nD (Dec.decT y.size y).1=l at *;have a5:Hid _:=hl4;clear hl4;obtain⟨a4,c4,rfl⟩:∃ a c,v4=.slice a l.length c:=by
          rcases ah.form with ⟨rfl,rfl⟩|⟨g,cap,rfl,_,_⟩
          .exact⟨_,_,rfl⟩
          .exact⟨_,_,rfl⟩
         have RN:=rn (by omega) ah;go_wp2_with fail;refine RN.mono ?_;rintro e w5 ⟨rfl,b5⟩;have a3:Hid _:=an.out.step b5;have I5:Hid (ab _ _ _ _):=ah.below b5;clear RN an b5 ah
         cases hro:bd l
         .have a1:Hid (ans=.error 2):=by show _=_;rw[<- a0.out,fi C1.out C2.out C3.out af (by rw[a5.out];exact yi hro)]
          have a2:=a3.out.be;obtain⟨⟨l1,l2,l3⟩,⟨q0,q1,q2⟩,⟨r0,r1,r2⟩,⟨e0,e1,e2,e3⟩,f2,fr,fl⟩:=a3.out.rb;have a8:w.heap.size<w5.heap.size:=by omega
          have a9:w2.heap.size<w5.heap.size:=by omega
          clear a0 a3 C1 C2 C3 I5 a5;go_wp2;refine bodyPost_ret (v:=aj 2) ?_ rfl (bn a1.out (bm a2 _ _ _));rw[results_cell_tmp rfl];unfold aj;go_simp
         .have aI:=eg hro
          have ai:∀ e ∈ st.es,e.runes.length≤1048576:=fun e he=>Nat.le_trans (eg ((cg HI.out.good).2.2 e he).1) (by omega)
          have bc:st.es.length≤40:=(cg HI.out.good).1
          cases hrs:st.reset
          .have a1:Hid (ans=.error 3):=by show _=_;rw[<- a0.out,fi C1.out C2.out C3.out af (by rw[a5.out];exact zg hro (by omega) hrs)]
           have a2:=a3.out.be;obtain⟨⟨l1,l2,l3⟩,⟨q0,q1,q2⟩,⟨r0,r1,r2⟩,⟨e0,e1,e2,e3⟩,f2,fr,fl⟩:=a3.out.rb;have a8:w.heap.size<w5.heap.size:=by omega
           have a9:w2.heap.size<w5.heap.size:=by omega
           clear a0 a3 C1 C2 C3 I5 a5 ai;go_wp2;refine bodyPost_ret (v:=aj 3) ?_ rfl (bn a1.out (bm a2 _ _ _));rw[results_cell_tmp rfl];unfold aj;go_simp
          .have AT:=ql (sh:=st.sh) (lv:=st.lv) a3.out.en I5.out (by omega) (by omega) ai
           clear ai;have a2:=a3.out.be;obtain⟨⟨l1,l2,l3⟩,⟨q0,q1,q2⟩,⟨r0,r1,r2⟩,⟨e0,e1,e2,e3⟩,f2,fr,fl⟩:=a3.out.rb;have a8:w.heap.size<w5.heap.size:=by omega
           have a9:w2.heap.size<w5.heap.size:=by omega
           go_wp2_with fail;refine AT.mono ?_;rintro e w6 ⟨rfl,b6⟩;have a7:Hid _:=a3.out.step b6;have I6:Hid (ab _ _ _ _):=I5.out.below b6;clear q0 q1 q2 r0 r1 r2 e0 e1 e2 e3 f2 fr fl a2 l1 l2 l3 a8 a9;clear AT a3 I5 b6;have a2:=a7.out.be;obtain⟨⟨l1,l2,l3⟩,⟨q0,q1,q2⟩,⟨r0,r1,r2⟩,⟨e0,e1,e2,e3⟩,f2,fr,fl⟩:=a7.out.rb;have a8:w.heap.size<w6.heap.size:=by omega
           have a9:w2.heap.size<w6.heap.size:=by omega
           by_cases aC:0≤atE st.es l
           .have a1:Hid (ans=.error 4):=by show _=_;rw[<- a0.out,fi C1.out C2.out C3.out af (by rw[a5.out];exact zh hro (by omega) hrs aC)]
            clear a0 a7 C1 C2 C3 I6 a5;go_wp2;refine bodyPost_ret (v:=aj 4) ?_ rfl (bn a1.out (bm a2 _ _ _));rw[results_cell_tmp rfl];unfold aj;go_simp
           .have BH:=Ab (sh:=st.sh) (lv:=st.lv) (n:=1) a7.out.en HI.out (by omega)
            have a6:=Cv (lev:=1) hro (by omega) hrs aC;obtain⟨nb,aJ⟩:∃ nb,Hid (gk st.es st.last 1=nb):=⟨_,rfl⟩
            rw[aJ.out]at BH a6;unfold elV at BH;go_wp2_with fail;refine BH.mono ?_;rintro e w7 ⟨rfl,b7⟩;have ag:Hid _:=a7.out.step b7;have I7:Hid (ab _ _ _ _):=I6.out.below b7;clear q0 q1 q2 r0 r1 r2 e0 e1 e2 e3 f2 fr fl a2 l1 l2 l3 a8 a9;clear BH a7 I6 b7;have ap:=ag.out.setLast nb st.reset;have i8:ab (mb w7 (w2.heap.size+1) nb) _ _ _:=World.ownsRow.kept I7.out (pz w7 (w2.heap.size+1) nb) (Cs I7.out bR);have a2:=ag.out.be;obtain⟨⟨l1,l2,l3⟩,⟨q0,q1,q2⟩,⟨r0,r1,r2⟩,⟨e0,e1,e2,e3⟩,f2,fr,fl⟩:=ag.out.rb;have a8:w.heap.size<w7.heap.size:=by omega
            have a9:w2.heap.size<w7.heap.size:=by omega
            obtain⟨xs,aO,h1,h2⟩:=ap.en;have ao:Hid _:=ap;have H2:Hid _:=h2;have I8:Hid (ab _ _ _ _):=i8;obtain⟨it,aM,aS,aP,aQ⟩:=info_parts Ar;clear ag I7 ap h2 i8 a2;go_wp2_with (at_builtin;refine wpList_append_lies _ rfl _ _ 54 rfl (w2.heap.size+1+1) 117 it _ 5 56 underlying54 aM aS aP aQ rfl (by decide) _ _ _ rfl (h1.alloc _) ⟨w7.heap.size,0,none⟩ 1 1 (gm (.slice a4 l.length c4) nb) rfl rfl (C7 _ _ _ _ _ (by simp)) ?hone (by omega) (by unfold maxLen;omega) (by omega) (by simp;omega) (w7.heap.size+1) (by simp) ?_)
            case hone =>
             intro z hz;simp[gm]at hz
             rcases hz with rfl|rfl|rfl|rfl|rfl <;> rfl
            intro g9 aK w9 aE ar _ _;have aq:=StM.put (l:=l) (ao.out.step (bY (.cells #[.slice a4 l.length c4,.int .i64 nb.first,.int .i64 nb.second,.int .i64 nb.third,.bool nb.varies] 117))) aO
             (fun kk ee he=>by obtain⟨z,hz,aR⟩:=H2.out kk ee he;exact⟨z,hz,aR.below (bY _)⟩) (I8.out.below (bY _)) (h1.alloc _) ar aE
            have aA:Hid _:=aq;have aF:∀ e ∈ st.es++[⟨l,nb⟩],e.runes.length≤1048576:=fun e he=>by
             rcases List.mem_append.1 he with h|h
             .exact Nat.le_trans (eg ((cg HI.out.good).2.2 e h).1) (by omega)
             .simp at h;subst h;exact Nat.le_trans aI (by omega)
            have GR:=yd (sh:=st.sh) (lv:=st.lv) aq.en aF;have aW:=(ao.out.step (bY (.cells #[.slice a4 l.length c4,.int .i64 nb.first,.int .i64 nb.second,.int .i64 nb.third,.bool nb.varies] 117))).rb.upTo (Below.grown (Below.refl (w2.heap.size+1+1) _) ar (by unfold mb;simp;omega) (fun j hj=>(World.ownsRow.lt h1 j hj).1)) (Nat.lt_succ_self _);clear q0 q1 q2 r0 r1 r2 e0 e1 e2 e3 f2 fr fl aq ao H2 I8 h1 ar aE aF;obtain⟨⟨aT,aU,aV⟩,⟨q0,q1,q2⟩,⟨r0,r1,r2⟩,⟨e0,e1,e2,e3⟩,f2,fr,fl⟩:=aW;go_wp2_with fail;refine GR.mono ?_;rintro e bs ⟨rfl,aB⟩;have ad:Hid _:=aA.out.step aB;clear q0 q1 q2 r0 r1 r2 e0 e1 e2 e3 f2 fr fl GR aA l1 l2 l3 a8 a9 aT aU aV aB
            cases hgd:ay (st.es++[⟨l,nb⟩]) st.lv
            .have a1:Hid (ans=.error 5):=by show _=_;rw[<- a0.out,fi C1.out C2.out C3.out af (by rw[a5.out,a6,if_neg (by simp[hgd])])]
             have a2:=ad.out.be;obtain⟨⟨l1,l2,l3⟩,⟨q0,q1,q2⟩,⟨r0,r1,r2⟩,⟨e0,e1,e2,e3⟩,f2,fr,fl⟩:=ad.out.rb;clear a0 C1 C2 C3 a5 a6 ad;go_wp2;refine bodyPost_ret (v:=aj 5) ?_ rfl (bn a1.out (bm a2 _ _ _));rw[results_cell_tmp rfl];unfold aj;go_simp
            .have HP:d8 st 1 l=.ok { st with es:=st.es++[⟨l,nb⟩],last:=nb }:=by rw[a6,if_pos hgd]
             have ax:Hid (bf (ws.drop (k+1+1)) { st with es:=st.es++[⟨l,nb⟩],last:=nb }=ans):=by show _=_;rw[<- a0.out,wd C1.out C2.out C3.out af (by rw[a5.out];exact HP)]
             have aH:Hid (gj { st with es:=st.es++[⟨l,nb⟩],last:=nb }):=qr HI.out HP;clear a0 C1 C2 C3 a5 a6 HP;go_wp2;exact⟨⟨k+1+1,{ st with es:=st.es++[⟨l,nb⟩],last:=nb },_,aD,by go_num,by show Value.bool true=Value.bool st.reset;rw[hrs],ax.out,aH.out,ad.out⟩,by simp[intOf];omega⟩
        .go_wp2_with fail
         refine (az _).mono ?_;rintro e w3 ⟨v3,rfl,i3,b3⟩;have D:=Dr (zs:=(Dec.decT y.size y).1) (by omega) i3;have am:Hid _:=HM.out.step b3;have av:Hid (w2.heap.size+1+1≤w3.heap.size):=by show _≤_;have:=b3.size;omega
         clear az HM q0 q1 q2 r0 r1 r2 f2 fr aY aL a2 l1 l2 l3 b3 i3;go_wp2_with fail;refine D.mono ?_;rintro e w4 ⟨v4,rfl,i4,b4⟩;have an:Hid _:=am.out.step b4;have ah:=fe i4 av.out;clear D am b4 av i4;generalize hl4:nD (Dec.decT y.size y).1=l at *;have a5:Hid _:=hl4;clear hl4;obtain⟨a4,c4,rfl⟩:∃ a c,v4=.slice a l.length c:=by
          rcases ah.form with ⟨rfl,rfl⟩|⟨g,cap,rfl,_,_⟩
          .exact⟨_,_,rfl⟩
          .exact⟨_,_,rfl⟩
         have RN:=rn (by omega) ah;go_wp2_with fail;refine RN.mono ?_;rintro e w5 ⟨rfl,b5⟩;have a3:Hid _:=an.out.step b5;have I5:Hid (ab _ _ _ _):=ah.below b5;clear RN an b5 ah
         cases hro:bd l
         .have a1:Hid (ans=.error 2):=by show _=_;rw[<- a0.out,fi C1.out C2.out C3.out af (by rw[a5.out];exact yi hro)]
          have a2:=a3.out.be;obtain⟨⟨l1,l2,l3⟩,⟨q0,q1,q2⟩,⟨r0,r1,r2⟩,⟨e0,e1,e2,e3⟩,f2,fr,fl⟩:=a3.out.rb;have a8:w.heap.size<w5.heap.size:=by omega
          have a9:w2.heap.size<w5.heap.size:=by omega
          clear a0 a3 C1 C2 C3 I5 a5;go_wp2;refine bodyPost_ret (v:=aj 2) ?_ rfl (bn a1.out (bm a2 _ _ _));rw[results_cell_tmp rfl];unfold aj;go_simp
         .have aI:=eg hro
          have ai:∀ e ∈ st.es,e.runes.length≤1048576:=fun e he=>Nat.le_trans (eg ((cg HI.out.good).2.2 e he).1) (by omega)
          have bc:st.es.length≤40:=(cg HI.out.good).1
          cases hrs:st.reset
          .have a1:Hid (ans=.error 3):=by show _=_;rw[<- a0.out,fi C1.out C2.out C3.out af (by rw[a5.out];exact zg hro (by omega) hrs)]
           have a2:=a3.out.be;obtain⟨⟨l1,l2,l3⟩,⟨q0,q1,q2⟩,⟨r0,r1,r2⟩,⟨e0,e1,e2,e3⟩,f2,fr,fl⟩:=a3.out.rb;have a8:w.heap.size<w5.heap.size:=by omega
           have a9:w2.heap.size<w5.heap.size:=by omega
           clear a0 a3 C1 C2 C3 I5 a5 ai;go_wp2;refine bodyPost_ret (v:=aj 3) ?_ rfl (bn a1.out (bm a2 _ _ _));rw[results_cell_tmp rfl];unfold aj;go_simp
          .have AT:=ql (sh:=st.sh) (lv:=st.lv) a3.out.en I5.out (by omega) (by omega) ai
           clear ai;have a2:=a3.out.be;obtain⟨⟨l1,l2,l3⟩,⟨q0,q1,q2⟩,⟨r0,r1,r2⟩,⟨e0,e1,e2,e3⟩,f2,fr,fl⟩:=a3.out.rb;have a8:w.heap.size<w5.heap.size:=by omega
           have a9:w2.heap.size<w5.heap.size:=by omega
           go_wp2_with fail;refine AT.mono ?_;rintro e w6 ⟨rfl,b6⟩;have a7:Hid _:=a3.out.step b6;have I6:Hid (ab _ _ _ _):=I5.out.below b6;clear q0 q1 q2 r0 r1 r2 e0 e1 e2 e3 f2 fr fl a2 l1 l2 l3 a8 a9;clear AT a3 I5 b6;have a2:=a7.out.be;obtain⟨⟨l1,l2,l3⟩,⟨q0,q1,q2⟩,⟨r0,r1,r2⟩,⟨e0,e1,e2,e3⟩,f2,fr,fl⟩:=a7.out.rb;have a8:w.heap.size<w6.heap.size:=by omega
           have a9:w2.heap.size<w6.heap.size:=by omega
           by_cases aC:0≤atE st.es l
           .have a1:Hid (ans=.error 4):=by show _=_;rw[<- a0.out,fi C1.out C2.out C3.out af (by rw[a5.out];exact zh hro (by omega) hrs aC)]
            clear a0 a7 C1 C2 C3 I6 a5;go_wp2;refine bodyPost_ret (v:=aj 4) ?_ rfl (bn a1.out (bm a2 _ _ _));rw[results_cell_tmp rfl];unfold aj;go_simp
           .have BH:=Ab (sh:=st.sh) (lv:=st.lv) (n:=2) a7.out.en HI.out (by omega)
            have a6:=Cv (lev:=2) hro (by omega) hrs aC;obtain⟨nb,aJ⟩:∃ nb,Hid (gk st.es st.last 2=nb):=⟨_,rfl⟩
            rw[aJ.out]at BH a6;unfold elV at BH;go_wp2_with fail;refine BH.mono ?_;rintro e w7 ⟨rfl,b7⟩;have ag:Hid _:=a7.out.step b7;have I7:Hid (ab _ _ _ _):=I6.out.below b7;clear q0 q1 q2 r0 r1 r2 e0 e1 e2 e3 f2 fr fl a2 l1 l2 l3 a8 a9;clear BH a7 I6 b7;have ap:=ag.out.setLast nb st.reset;have i8:ab (mb w7 (w2.heap.size+1) nb) _ _ _:=World.ownsRow.kept I7.out (pz w7 (w2.heap.size+1) nb) (Cs I7.out bR);have a2:=ag.out.be;obtain⟨⟨l1,l2,l3⟩,⟨q0,q1,q2⟩,⟨r0,r1,r2⟩,⟨e0,e1,e2,e3⟩,f2,fr,fl⟩:=ag.out.rb;have a8:w.heap.size<w7.heap.size:=by omega
            have a9:w2.heap.size<w7.heap.size:=by omega
            obtain⟨xs,aO,h1,h2⟩:=ap.en;have ao:Hid _:=ap;have H2:Hid _:=h2;have I8:Hid (ab _ _ _ _):=i8;obtain⟨it,aM,aS,aP,aQ⟩:=info_parts Ar;clear ag I7 ap h2 i8 a2;go_wp2_with (at_builtin;refine wpList_append_lies _ rfl _ _ 54 rfl (w2.heap.size+1+1) 117 it _ 5 56 underlying54 aM aS aP aQ rfl (by decide) _ _ _ rfl (h1.alloc _) ⟨w7.heap.size,0,none⟩ 1 1 (gm (.slice a4 l.length c4) nb) rfl rfl (C7 _ _ _ _ _ (by simp)) ?hone (by omega) (by unfold maxLen;omega) (by omega) (by simp;omega) (w7.heap.size+1) (by simp) ?_)
            case hone =>
             intro z hz;simp[gm]at hz
             rcases hz with rfl|rfl|rfl|rfl|rfl <;> rfl
            intro g9 aK w9 aE ar _ _;have aq:=StM.put (l:=l) (ao.out.step (bY (.cells #[.slice a4 l.length c4,.int .i64 nb.first,.int .i64 nb.second,.int .i64 nb.third,.bool nb.varies] 117))) aO
             (fun kk ee he=>by obtain⟨z,hz,aR⟩:=H2.out kk ee he;exact⟨z,hz,aR.below (bY _)⟩) (I8.out.below (bY _)) (h1.alloc _) ar aE
            have aA:Hid _:=aq;have aF:∀ e ∈ st.es++[⟨l,nb⟩],e.runes.length≤1048576:=fun e he=>by
             rcases List.mem_append.1 he with h|h
             .exact Nat.le_trans (eg ((cg HI.out.good).2.2 e h).1) (by omega)
             .simp at h;subst h;exact Nat.le_trans aI (by omega)
            have GR:=yd (sh:=st.sh) (lv:=st.lv) aq.en aF;have aW:=(ao.out.step (bY (.cells #[.slice a4 l.length c4,.int .i64 nb.first,.int .i64 nb.second,.int .i64 nb.third,.bool nb.varies] 117))).rb.upTo (Below.grown (Below.refl (w2.heap.size+1+1) _) ar (by unfold mb;simp;omega) (fun j hj=>(World.ownsRow.lt h1 j hj).1)) (Nat.lt_succ_self _);clear q0 q1 q2 r0 r1 r2 e0 e1 e2 e3 f2 fr fl aq ao H2 I8 h1 ar aE aF;obtain⟨⟨aT,aU,aV⟩,⟨q0,q1,q2⟩,⟨r0,r1,r2⟩,⟨e0,e1,e2,e3⟩,f2,fr,fl⟩:=aW;go_wp2_with fail;refine GR.mono ?_;rintro e bs ⟨rfl,aB⟩;have ad:Hid _:=aA.out.step aB;clear q0 q1 q2 r0 r1 r2 e0 e1 e2 e3 f2 fr fl GR aA l1 l2 l3 a8 a9 aT aU aV aB
            cases hgd:ay (st.es++[⟨l,nb⟩]) st.lv
            .have a1:Hid (ans=.error 5):=by show _=_;rw[<- a0.out,fi C1.out C2.out C3.out af (by rw[a5.out,a6,if_neg (by simp[hgd])])]
             have a2:=ad.out.be;obtain⟨⟨l1,l2,l3⟩,⟨q0,q1,q2⟩,⟨r0,r1,r2⟩,⟨e0,e1,e2,e3⟩,f2,fr,fl⟩:=ad.out.rb;clear a0 C1 C2 C3 a5 a6 ad;go_wp2;refine bodyPost_ret (v:=aj 5) ?_ rfl (bn a1.out (bm a2 _ _ _));rw[results_cell_tmp rfl];unfold aj;go_simp
            .have HP:d8 st 2 l=.ok { st with es:=st.es++[⟨l,nb⟩],last:=nb }:=by rw[a6,if_pos hgd]
             have ax:Hid (bf (ws.drop (k+1+1)) { st with es:=st.es++[⟨l,nb⟩],last:=nb }=ans):=by show _=_;rw[<- a0.out,wd C1.out C2.out C3.out af (by rw[a5.out];exact HP)]
             have aH:Hid (gj { st with es:=st.es++[⟨l,nb⟩],last:=nb }):=qr HI.out HP;clear a0 C1 C2 C3 a5 a6 HP;go_wp2;exact⟨⟨k+1+1,{ st with es:=st.es++[⟨l,nb⟩],last:=nb },_,aD,by go_num,by show Value.bool true=Value.bool st.reset;rw[hrs],ax.out,aH.out,ad.out⟩,by simp[intOf];omega⟩
        .go_wp2_with fail
         refine (az _).mono ?_;rintro e w3 ⟨v3,rfl,i3,b3⟩;have D:=Dr (zs:=(Dec.decT y.size y).1) (by omega) i3;have am:Hid _:=HM.out.step b3;have av:Hid (w2.heap.size+1+1≤w3.heap.size):=by show _≤_;have:=b3.size;omega
         clear az HM q0 q1 q2 r0 r1 r2 f2 fr aY aL a2 l1 l2 l3 b3 i3;go_wp2_with fail;refine D.mono ?_;rintro e w4 ⟨v4,rfl,i4,b4⟩;have an:Hid _:=am.out.step b4;have ah:=fe i4 av.out;clear D am b4 av i4;generalize hl4:nD (Dec.decT y.size y).1=l at *;have a5:Hid _:=hl4;clear hl4;obtain⟨a4,c4,rfl⟩:∃ a c,v4=.slice a l.length c:=by
          rcases ah.form with ⟨rfl,rfl⟩|⟨g,cap,rfl,_,_⟩
          .exact⟨_,_,rfl⟩
          .exact⟨_,_,rfl⟩
         have RN:=rn (by omega) ah;go_wp2_with fail;refine RN.mono ?_;rintro e w5 ⟨rfl,b5⟩;have a3:Hid _:=an.out.step b5;have I5:Hid (ab _ _ _ _):=ah.below b5;clear RN an b5 ah
         cases hro:bd l
         .have a1:Hid (ans=.error 2):=by show _=_;rw[<- a0.out,fi C1.out C2.out C3.out af (by rw[a5.out];exact yi hro)]
          have a2:=a3.out.be;obtain⟨⟨l1,l2,l3⟩,⟨q0,q1,q2⟩,⟨r0,r1,r2⟩,⟨e0,e1,e2,e3⟩,f2,fr,fl⟩:=a3.out.rb;have a8:w.heap.size<w5.heap.size:=by omega
          have a9:w2.heap.size<w5.heap.size:=by omega
          clear a0 a3 C1 C2 C3 I5 a5;go_wp2;refine bodyPost_ret (v:=aj 2) ?_ rfl (bn a1.out (bm a2 _ _ _));rw[results_cell_tmp rfl];unfold aj;go_simp
         .have aI:=eg hro
          have ai:∀ e ∈ st.es,e.runes.length≤1048576:=fun e he=>Nat.le_trans (eg ((cg HI.out.good).2.2 e he).1) (by omega)
          have bc:st.es.length≤40:=(cg HI.out.good).1
          cases hrs:st.reset
          .have a1:Hid (ans=.error 3):=by show _=_;rw[<- a0.out,fi C1.out C2.out C3.out af (by rw[a5.out];exact zg hro (by omega) hrs)]
           have a2:=a3.out.be;obtain⟨⟨l1,l2,l3⟩,⟨q0,q1,q2⟩,⟨r0,r1,r2⟩,⟨e0,e1,e2,e3⟩,f2,fr,fl⟩:=a3.out.rb;have a8:w.heap.size<w5.heap.size:=by omega
           have a9:w2.heap.size<w5.heap.size:=by omega
           clear a0 a3 C1 C2 C3 I5 a5 ai;go_wp2;refine bodyPost_ret (v:=aj 3) ?_ rfl (bn a1.out (bm a2 _ _ _));rw[results_cell_tmp rfl];unfold aj;go_simp
          .have AT:=ql (sh:=st.sh) (lv:=st.lv) a3.out.en I5.out (by omega) (by omega) ai
           clear ai;have a2:=a3.out.be;obtain⟨⟨l1,l2,l3⟩,⟨q0,q1,q2⟩,⟨r0,r1,r2⟩,⟨e0,e1,e2,e3⟩,f2,fr,fl⟩:=a3.out.rb;have a8:w.heap.size<w5.heap.size:=by omega
           have a9:w2.heap.size<w5.heap.size:=by omega
           go_wp2_with fail;refine AT.mono ?_;rintro e w6 ⟨rfl,b6⟩;have a7:Hid _:=a3.out.step b6;have I6:Hid (ab _ _ _ _):=I5.out.below b6;clear q0 q1 q2 r0 r1 r2 e0 e1 e2 e3 f2 fr fl a2 l1 l2 l3 a8 a9;clear AT a3 I5 b6;have a2:=a7.out.be;obtain⟨⟨l1,l2,l3⟩,⟨q0,q1,q2⟩,⟨r0,r1,r2⟩,⟨e0,e1,e2,e3⟩,f2,fr,fl⟩:=a7.out.rb;have a8:w.heap.size<w6.heap.size:=by omega
           have a9:w2.heap.size<w6.heap.size:=by omega
           by_cases aC:0≤atE st.es l
           .have a1:Hid (ans=.error 4):=by show _=_;rw[<- a0.out,fi C1.out C2.out C3.out af (by rw[a5.out];exact zh hro (by omega) hrs aC)]
            clear a0 a7 C1 C2 C3 I6 a5;go_wp2;refine bodyPost_ret (v:=aj 4) ?_ rfl (bn a1.out (bm a2 _ _ _));rw[results_cell_tmp rfl];unfold aj;go_simp
           .have BH:=Ab (sh:=st.sh) (lv:=st.lv) (n:=3) a7.out.en HI.out (by omega)
            have a6:=Cv (lev:=3) hro (by omega) hrs aC;obtain⟨nb,aJ⟩:∃ nb,Hid (gk st.es st.last 3=nb):=⟨_,rfl⟩
            rw[aJ.out]at BH a6;unfold elV at BH;go_wp2_with fail;refine BH.mono ?_;rintro e w7 ⟨rfl,b7⟩;have ag:Hid _:=a7.out.step b7;have I7:Hid (ab _ _ _ _):=I6.out.below b7;clear q0 q1 q2 r0 r1 r2 e0 e1 e2 e3 f2 fr fl a2 l1 l2 l3 a8 a9;clear BH a7 I6 b7;have ap:=ag.out.setLast nb st.reset;have i8:ab (mb w7 (w2.heap.size+1) nb) _ _ _:=World.ownsRow.kept I7.out (pz w7 (w2.heap.size+1) nb) (Cs I7.out bR);have a2:=ag.out.be;obtain⟨⟨l1,l2,l3⟩,⟨q0,q1,q2⟩,⟨r0,r1,r2⟩,⟨e0,e1,e2,e3⟩,f2,fr,fl⟩:=ag.out.rb;have a8:w.heap.size<w7.heap.size:=by omega
            have a9:w2.heap.size<w7.heap.size:=by omega
            obtain⟨xs,aO,h1,h2⟩:=ap.en;have ao:Hid _:=ap;have H2:Hid _:=h2;have I8:Hid (ab _ _ _ _):=i8;obtain⟨it,aM,aS,aP,aQ⟩:=info_parts Ar;clear ag I7 ap h2 i8 a2;go_wp2_with (at_builtin;refine wpList_append_lies _ rfl _ _ 54 rfl (w2.heap.size+1+1) 117 it _ 5 56 underlying54 aM aS aP aQ rfl (by decide) _ _ _ rfl (h1.alloc _) ⟨w7.heap.size,0,none⟩ 1 1 (gm (.slice a4 l.length c4) nb) rfl rfl (C7 _ _ _ _ _ (by simp)) ?hone (by omega) (by unfold maxLen;omega) (by omega) (by simp;omega) (w7.heap.size+1) (by simp) ?_)
            case hone =>
             intro z hz;simp[gm]at hz
             rcases hz with rfl|rfl|rfl|rfl|rfl <;> rfl
            intro g9 aK w9 aE ar _ _;have aq:=StM.put (l:=l) (ao.out.step (bY (.cells #[.slice a4 l.length c4,.int .i64 nb.first,.int .i64 nb.second,.int .i64 nb.third,.bool nb.varies] 117))) aO
             (fun kk ee he=>by obtain⟨z,hz,aR⟩:=H2.out kk ee he;exact⟨z,hz,aR.below (bY _)⟩) (I8.out.below (bY _)) (h1.alloc _) ar aE
            have aA:Hid _:=aq;have aF:∀ e ∈ st.es++[⟨l,nb⟩],e.runes.length≤1048576:=fun e he=>by
             rcases List.mem_append.1 he with h|h
             .exact Nat.le_trans (eg ((cg HI.out.good).2.2 e h).1) (by omega)
             .simp at h;subst h;exact Nat.le_trans aI (by omega)
            have GR:=yd (sh:=st.sh) (lv:=st.lv) aq.en aF;have aW:=(ao.out.step (bY (.cells #[.slice a4 l.length c4,.int .i64 nb.first,.int .i64 nb.second,.int .i64 nb.third,.bool nb.varies] 117))).rb.upTo (Below.grown (Below.refl (w2.heap.size+1+1) _) ar (by unfold mb;simp;omega) (fun j hj=>(World.ownsRow.lt h1 j hj).1)) (Nat.lt_succ_self _);clear q0 q1 q2 r0 r1 r2 e0 e1 e2 e3 f2 fr fl aq ao H2 I8 h1 ar aE aF;obtain⟨⟨aT,aU,aV⟩,⟨q0,q1,q2⟩,⟨r0,r1,r2⟩,⟨e0,e1,e2,e3⟩,f2,fr,fl⟩:=aW;go_wp2_with fail;refine GR.mono ?_;rintro e bs ⟨rfl,aB⟩;have ad:Hid _:=aA.out.step aB;clear q0 q1 q2 r0 r1 r2 e0 e1 e2 e3 f2 fr fl GR aA l1 l2 l3 a8 a9 aT aU aV aB
            cases hgd:ay (st.es++[⟨l,nb⟩]) st.lv
            .have a1:Hid (ans=.error 5):=by show _=_;rw[<- a0.out,fi C1.out C2.out C3.out af (by rw[a5.out,a6,if_neg (by simp[hgd])])]
             have a2:=ad.out.be;obtain⟨⟨l1,l2,l3⟩,⟨q0,q1,q2⟩,⟨r0,r1,r2⟩,⟨e0,e1,e2,e3⟩,f2,fr,fl⟩:=ad.out.rb;clear a0 C1 C2 C3 a5 a6 ad;go_wp2;refine bodyPost_ret (v:=aj 5) ?_ rfl (bn a1.out (bm a2 _ _ _));rw[results_cell_tmp rfl];unfold aj;go_simp
            .have HP:d8 st 3 l=.ok { st with es:=st.es++[⟨l,nb⟩],last:=nb }:=by rw[a6,if_pos hgd]
             have ax:Hid (bf (ws.drop (k+1+1)) { st with es:=st.es++[⟨l,nb⟩],last:=nb }=ans):=by show _=_;rw[<- a0.out,wd C1.out C2.out C3.out af (by rw[a5.out];exact HP)]
             have aH:Hid (gj { st with es:=st.es++[⟨l,nb⟩],last:=nb }):=qr HI.out HP;clear a0 C1 C2 C3 a5 a6 HP;go_wp2;exact⟨⟨k+1+1,{ st with es:=st.es++[⟨l,nb⟩],last:=nb },_,aD,by go_num,by show Value.bool true=Value.bool st.reset;rw[hrs],ax.out,aH.out,ad.out⟩,by simp[intOf];omega⟩
      .have a1:Hid (ans=.error 2):=by show _=_;rw[<- al.out,Mq (by omega),Wi C1.out C2.out C3.out]
       have he:((k:Int)+1 == (ws.length:Int))=true:=by simp;omega
       clear al HM C1 C2 C3;rcases bb with ⟨_,d0⟩|⟨_,d0,d1⟩|⟨_,d0,d1,d2⟩|⟨_,d0,d1,d2,d3⟩
       .go_wp2
        refine bodyPost_ret (v:=aj 2) ?_ rfl (bn a1.out (bm a2 _ _ _));rw[results_cell_tmp rfl];unfold aj;go_simp
       .go_wp2
        refine bodyPost_ret (v:=aj 2) ?_ rfl (bn a1.out (bm a2 _ _ _));rw[results_cell_tmp rfl];unfold aj;go_simp
       .go_wp2
        refine bodyPost_ret (v:=aj 2) ?_ rfl (bn a1.out (bm a2 _ _ _));rw[results_cell_tmp rfl];unfold aj;go_simp
       .go_wp2
        refine bodyPost_ret (v:=aj 2) ?_ rfl (bn a1.out (bm a2 _ _ _));rw[results_cell_tmp rfl];unfold aj;go_simp
    .have C1:Hid _:=c1
     have C2:Hid _:=c2;unfold jl at c1;unfold jp at c2;by_cases aD:k+1<ws.length
     .obtain⟨y,hy⟩:∃ y,ws[k+1]? = some y:=⟨_,List.getElem?_eq_getElem aD⟩
      have aL:=HM.out.sr.cell (k+1) y hy;have a0:Hid (bf (x::y::ws.drop (k+1+1)) st=ans):=by show _=_;rw[<- Iq hy];exact al.out
      have he:((k:Int)+1 == (ws.length:Int))=false:=by simp;omega
      have bx:(k:Int)+1<(ws.length:Int):=by omega
      clear hy al;by_cases z0:y.size=2
      .have bA:((y.size:Int) != 2)=false:=by simp;omega
       have y0:0<y.size:=by omega
       have y1:1<y.size:=by omega
       have E0:=Dec.bt_get y 0 y0;have E1:=Dec.bt_get y 1 y1;have i3:(y[0]'y0).toNat<256:=(y[0]'y0).toNat_lt;have i4:(y[1]'y1).toNat<256:=(y[1]'y1).toNat_lt;by_cases z1:49≤Dec.bt y 0
       .have i0:¬ ((y[0]'y0).toNat:Int)<49:=by omega
        by_cases z2:Dec.bt y 0≤52
        .have i1:¬ (52:Int)<((y[0]'y0).toNat:Int):=by omega
         by_cases z3:Dec.bt y 1=93
         .have bh:=ac2 ⟨z0,z1,z2,z3⟩
          rw[<- E0]at bh;have ax:Hid (bf (ws.drop (k+1+1)) { st with lv:=((y[0]'y0).toNat:Int)-48 }=ans):=by show _=_;rw[<- a0.out,Wg C1.out C2.out bh]
          have i2:(((y[1]'y1).toNat:Int) != 93)=false:=by simp;omega
          have b0:Hid _:=HM.out.setLv (((y[0]'y0).toNat:Int)-48);have bz:Hid (1≤((y[0]'y0).toNat:Int)-48∧((y[0]'y0).toNat:Int)-48≤4):=by show _∧_;omega
          clear a0 z1 z2 z3 E0 E1 bh HM a2 C1 C2;go_wp2;exact⟨⟨k+1+1,{ st with lv:=((y[0]'y0).toNat:Int)-48 },_,aD,by go_num,rfl,ax.out,⟨Bd HI.out.good bz.out,HI.out.f0,HI.out.f1,HI.out.s0,HI.out.s1,HI.out.t0,HI.out.t1⟩,b0.out⟩,by simp[intOf];omega⟩
         .have a1:Hid (ans=.error 2):=by show _=_;rw[<- a0.out,wa C1.out C2.out (Du fun h=>z3 h.2.2.2)]
          have i2:(((y[1]'y1).toNat:Int) != 93)=true:=by simp;omega
          clear a0 z1 z2 z3 E0 E1 HM C1 C2;go_wp2;refine bodyPost_ret (v:=aj 2) ?_ rfl (bn a1.out (bm a2 _ _ _));rw[results_cell_tmp rfl];unfold aj;go_simp
        .have a1:Hid (ans=.error 2):=by show _=_;rw[<- a0.out,wa C1.out C2.out (Du fun h=>z2 h.2.2.1)]
         have i1:(52:Int)<((y[0]'y0).toNat:Int):=by omega
         clear a0 z1 z2 E0 E1 HM C1 C2;go_wp2;refine bodyPost_ret (v:=aj 2) ?_ rfl (bn a1.out (bm a2 _ _ _));rw[results_cell_tmp rfl];unfold aj;go_simp
       .have a1:Hid (ans=.error 2):=by show _=_;rw[<- a0.out,wa C1.out C2.out (Du fun h=>z1 h.2.1)]
        have i0:((y[0]'y0).toNat:Int)<49:=by omega
        clear a0 z1 E0 E1 HM C1 C2;go_wp2;refine bodyPost_ret (v:=aj 2) ?_ rfl (bn a1.out (bm a2 _ _ _));rw[results_cell_tmp rfl];unfold aj;go_simp
      .have a1:Hid (ans=.error 2):=by show _=_;rw[<- a0.out,wa C1.out C2.out (Du fun h=>z0 h.1)]
       have bA:((y.size:Int) != 2)=true:=by simp;omega
       clear a0 z0 HM C1 C2;go_wp2;refine bodyPost_ret (v:=aj 2) ?_ rfl (bn a1.out (bm a2 _ _ _));rw[results_cell_tmp rfl];unfold aj;go_simp
     .have a1:Hid (ans=.error 2):=by show _=_;rw[<- al.out,Mq (by omega),Wf C1.out C2.out]
      have he:((k:Int)+1 == (ws.length:Int))=true:=by simp;omega
      clear al HM C1 C2;go_wp2;refine bodyPost_ret (v:=aj 2) ?_ rfl (bn a1.out (bm a2 _ _ _));rw[results_cell_tmp rfl];unfold aj;go_simp
   .have bv:Hid (bf (ws.drop (k+1)) { st with sh:=true }=ans):=by
     show _=_
     rw[<- al.out,Ro c1]
    unfold jl at c1;have b0:Hid _:=HM.out.setSh true;clear al HM a2;go_wp2;exact⟨⟨k+1,{ st with sh:=true },_,bg,by go_num,rfl,bv.out,⟨HI.out.good,HI.out.f0,HI.out.f1,HI.out.s0,HI.out.s1,HI.out.t0,HI.out.t1⟩,b0.out⟩,by simp[intOf];omega⟩
  .have bw:k=ws.length:=by omega
   subst bw;have HA:Hid (ans=.ok st):=by show _=_;rw[<- HR.out,List.drop_length,a21]
   have bl:=((((HM.out.en.grown (au wr w.heap.size 0 (.slice ae st.es.length ce)) (by omega)).grown (au _ w.heap.size 1 (.bool st.sh)) (by omega)).grown (au _ w.heap.size 2 (.int .i64 st.lv)) (by omega))).low (B:=w.heap.size) (by omega);have bu:Hid (ac _ _ _ _):=bl;clear HR bl HM;go_wp2;refine bodyPost_ret (v:=.tuple #[.agg #[.slice ae st.es.length ce,.bool st.sh,.int .i64 st.lv],.int .i64 0]) ?_ rfl ⟨_,by rw[HA.out];rfl,by rw[HA.out];exact bu.out,bm a2 _ _ _⟩;rw[results_cell_tmp rfl];go_simp
theorem Fy (s:ByteArray) (w:World) (hs:s.size≤1073741824):Calls prog 23 #[.string s] w fun e w'=>Gi w (aa s) e w':=by
 by_cases h:300<s.size
 .exact a23 s w h hs
 .exact Wk s w (by omega)
end Go.Proofs.YtjbmgghehdemdaaGreatDoor
