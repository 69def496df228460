/- RdrB -/
import Derived.Test.YtjbmgghehdemdaaGreatDoorMR30
import Derived.Test.YtjbmgghehdemdaaGreatDoorMR32
import Derived.Deep.RegionWith
import Derived.BigRegion
import Derived.ScopeJumps
import Derived.Laws.ResultCell
namespace Go.Proofs.YtjbmgghehdemdaaGreatDoor
set_option maxRecDepth 100000
set_option maxHeartbeats 16000000
open _root_.Go.Proofs.Tryz
open Go.RowKit
theorem jh.up {w:World} {B T a:Nat} {v:Value} {es:List Ent}(h:jh w B T v es) (b:T<=a):jh w B a v es:=by
 obtain⟨l,k,c,d,e,f,j⟩:=h;exact⟨l,k,c,d,e,fun g hg=>Nat.lt_of_lt_of_le (f g hg) b,fun i x g hx hg=>Nat.lt_of_lt_of_le (j i x g hx hg) b⟩
theorem jh.grown {u u':World} {B T b:Nat} {v:Value} {es:List Ent}(h:jh u B T v es) (a:u.grownBy u' (some b)) (r:b<B):jh u' B T v es:=by
 have i:∀ {v:Value},(∀ g,v.ownBlock=some g->B<=g)->v.ownBlock=none\/v.ownBlock≠some b:=fun {v} h=>by
  cases e:v.ownBlock with
  | none=>exact .inl rfl
  | some g =>
   refine .inr fun c=>?_
   have:=h g e
   cases c
   omega
 obtain⟨q,o,d,j,l,m,n⟩:=h;refine⟨q,o,World.ownsRow.kept d a (i fun g a=>(World.ownsRow.lt d g a).1),fun k e he=>?_,l,m,n⟩;obtain⟨x,p,f⟩:=j k e he;exact⟨x,p,World.ownsRow.kept f a (i fun g a=>(World.ownsRow.lt f g a).1)⟩
def rdC (l:List UInt8) (vE:Value) (st:RS):Array Value:=#[.string ⟨l.toArray⟩,vE,.bool st.sh,.int .i64 st.lv,.int .i64 st.last.first,.int .i64 st.last.second,.int .i64 st.last.third,.bool st.last.varies,.bool st.reset]
structure RdM (w u:World) (b T:Nat) (l:List UInt8) (st:RS) (vE:Value):Prop where
 blk:u.heap[b]? = some (.cells (rdC l vE st) 184)
 en:jh u (b+1) T vE st.es
 tl:T<=u.heap.size
 be:Below b w u
 tab:dr u
 tb:7<b/\10<b/\11<b
theorem RdM.lt {w u:World} {b T:Nat} {l:List UInt8} {st:RS} {vE:Value}(h:RdM w u b T l st vE):b<u.heap.size:=(Array.getElem?_eq_some_iff.1 h.blk).1
theorem RdM.cells {w u:World} {b T:Nat} {l:List UInt8} {st:RS} {vE:Value}(h:RdM w u b T l st vE) :
  u.cell? ⟨b,0,none⟩=some (.string ⟨l.toArray⟩)/\u.cell? ⟨b,1,none⟩=some vE/\u.cell? ⟨b,2,none⟩=some (.bool st.sh)/\u.cell? ⟨b,3,none⟩=some (.int .i64 st.lv)/\u.cell? ⟨b,4,none⟩=some (.int .i64 st.last.first)/\u.cell? ⟨b,5,none⟩=some (.int .i64 st.last.second)/\u.cell? ⟨b,6,none⟩=some (.int .i64 st.last.third)/\u.cell? ⟨b,7,none⟩=some (.bool st.last.varies)/\u.cell? ⟨b,8,none⟩=some (.bool st.reset)/\∀ j,u.frozen? ⟨b,j,none⟩=false :=
 ⟨cell_of_row _ _ 0 _ _ _ h.blk,cell_of_row _ _ 1 _ _ _ h.blk,cell_of_row _ _ 2 _ _ _ h.blk,cell_of_row _ _ 3 _ _ _ h.blk,cell_of_row _ _ 4 _ _ _ h.blk,cell_of_row _ _ 5 _ _ _ h.blk,cell_of_row _ _ 6 _ _ _ h.blk,cell_of_row _ _ 7 _ _ _ h.blk,cell_of_row _ _ 8 _ _ _ h.blk,fun j=>by simp[World.frozen?,h.blk]⟩
theorem RdM.step {w u u':World} {b T:Nat} {l:List UInt8} {st:RS} {vE:Value}(h:RdM w u b T l st vE) (a:Below u.heap.size u u'):RdM w u' b T l st vE :=
 ⟨(a.block _ h.lt).trans h.blk,h.en.below a,Nat.le_trans h.tl a.size,h.be.trans (a.mono (Nat.le_of_lt h.lt)),h.tab.below a,h.tb⟩
theorem RdM.up {w u:World} {b T:Nat} {l:List UInt8} {st:RS} {vE:Value}(h:RdM w u b T l st vE):RdM w u b u.heap.size l st vE :=
 ⟨h.blk,h.en.up h.tl,bR,h.be,h.tab,h.tb⟩
theorem db.set {u:World} {g b i:Nat} {zs:List Int} {x:Value}(h:db u g zs) (d:g<b):db (u.setCell ⟨b,i,none⟩ x) g zs:=by
 obtain⟨t,a,c⟩:=h;exact⟨t,a,by rw[Below.heap_setCell _ _ _ _ (by show g≠b;omega)];exact c⟩
theorem RdM.set {w u:World} {b T i:Nat} {l l':List UInt8} {st st':RS} {vE vE' x:Value}(h:RdM w u b T l st vE) (a:(rdC l vE st).setIfInBounds i x=rdC l' vE' st') (d:vE'=vE) (c:st'.es=st.es) :
  RdM w (u.setCell ⟨b,i,none⟩ x) b T l' st' vE':=by
 subst d;refine⟨?_,?_,?_,h.be.setCell bR _,⟨h.tab.1.set h.tb.1,h.tab.2.1.set h.tb.2.1,h.tab.2.2.set h.tb.2.2⟩,h.tb⟩
 .rw[heap_setCell_same u b i _ _ x h.blk,a]
 .rw[c]
  exact h.en.grown (au u b i x) (Nat.lt_succ_self _)
 .simpa using h.tl
def ym (u:World) (b:Nat) (e:El):World:=(((u.setCell ⟨b,4,none⟩ (.int .i64 e.first)).setCell ⟨b,5,none⟩ (.int .i64 e.second)).setCell ⟨b,6,none⟩ (.int .i64 e.third)).setCell ⟨b,7,none⟩ (.bool e.varies)
theorem RdM.setLast {w u:World} {b T:Nat} {l:List UInt8} {st:RS} {vE:Value}(h:RdM w u b T l st vE) (e:El):RdM w (ym u b e) b T l { st with last:=e } vE:=by
 have a:RdM w (u.setCell ⟨b,4,none⟩ (.int .i64 e.first)) b T l { st with last:={ st.last with first:=e.first } } vE:=h.set rfl rfl rfl;have c:RdM w ((u.setCell ⟨b,4,none⟩ (.int .i64 e.first)).setCell ⟨b,5,none⟩ (.int .i64 e.second)) b T l { st with last:={ st.last with first:=e.first,second:=e.second } } vE:=a.set rfl rfl rfl;have d:RdM w (((u.setCell ⟨b,4,none⟩ (.int .i64 e.first)).setCell ⟨b,5,none⟩ (.int .i64 e.second)).setCell ⟨b,6,none⟩ (.int .i64 e.third)) b T l { st with last:={ st.last with first:=e.first,second:=e.second,third:=e.third } } vE:=c.set rfl rfl rfl;exact d.set rfl rfl rfl
theorem Rr (u:World) (b:Nat) (e:El):u.grownBy (ym u b e) (some b) :=
 (((au u b 4 _).trans (au _ b 5 _)).trans (au _ b 6 _)).trans (au _ b 7 _)
theorem db.grown {u u':World} {g:Nat} {zs:List Int} {row:Option Nat}(h:db u g zs) (d:u.grownBy u' row) (e:∀ j,row=some j->g≠j):db u' g zs:=by
 obtain⟨t,b,a⟩:=h;exact⟨t,b,by rw[d.block g (Array.getElem?_eq_some_iff.1 a).1 (fun c=>e g c.symm rfl)];exact a⟩
theorem RdM.put {w u u':World} {b T E g cap:Nat} {l:List UInt8} {st:RS} {vE vl:Value} {r:List Int} {xs:List Value}(h:RdM w u b T l st vE) (s:xs.length=st.es.length)
  (h1:u.ownsRow (b+1) 117 5 vE st.es.length (eu xs st.es))
  (h2:∀ (k:Nat) (e:Ent),st.es[k]? = some e->∃ x,xs[k]? = some x/\ab u (b+1) x e.runes)
  (W:∀ (i j:Nat) (x y:Value),i≠j->xs[i]? = some x->xs[j]? = some y->x.ownBlock=none\/x.ownBlock≠y.ownBlock)
  (F:∀ (i:Nat) (x:Value) (g:Nat),xs[i]? = some x->x.ownBlock=some g->g<T)
  (A:ab u E vl r) (hB:T<=E) (L:b+1<=E) (d:u.grownBy u' vE.ownBlock)
  (G:u'.ownsRow (b+1) 117 5 (.slice (some ⟨g,0,none⟩) (st.es.length+1) cap) (st.es.length+1) (eu xs st.es++gm vl st.last)) :
  RdM w (u'.setCell ⟨b,1,none⟩ (.slice (some ⟨g,0,none⟩) (st.es.length+1) cap)) b u'.heap.size l { st with es:=st.es++[⟨r,st.last⟩] } (.slice (some ⟨g,0,none⟩) (st.es.length+1) cap):=by
 have m:∀ j,vE.ownBlock=some j->b+1<=j:=fun j hj=>(World.ownsRow.lt h1 j hj).1
 have C:ab u (b+1) vl r:=fe A L;have hE:ac u' (b+1) (.slice (some ⟨g,0,none⟩) (st.es.length+1) cap) (st.es++[⟨r,st.last⟩]):=ac.snoc (e:=⟨r,st.last⟩) s h2 C h1 d G;have X:jh u' (b+1) u'.heap.size (.slice (some ⟨g,0,none⟩) (st.es.length+1) cap) (st.es++[⟨r,st.last⟩]):=by
  refine⟨xs++[vl],by simp[s],?_,?_,?_,?_,?_⟩
  .rw[Eh xs st.es vl ⟨r,st.last⟩ s,List.length_append]
   exact G
  .intro k e q
   by_cases Y:k<st.es.length
   .rw[List.getElem?_append_left Y]at q
    obtain⟨z,K,I⟩:=h2 k e q;have R:=(List.getElem?_eq_some_iff.1 K).1;exact⟨z,by rw[List.getElem?_append_left R];exact K,World.ownsRow.kept I d (dg I h1 (by decide))⟩
   .have Q:k=st.es.length:=by
     have:=(List.getElem?_eq_some_iff.1 q).1;simp at this;omega
    subst Q;simp at q;subst q;exact⟨vl,by rw[<- s];simp,World.ownsRow.kept C d (dg C h1 (by decide))⟩
  .have t:∀ (i:Nat) (x:Value),i<xs.length->(xs++[vl])[i]? = some x->xs[i]? = some x:=fun i x hi a=>by rw[List.getElem?_append_left hi]at a;exact a
   have J:∀ (i:Nat) (x:Value),¬ i<xs.length->(xs++[vl])[i]? = some x->x=vl:=fun i x hi a=>by
    have o:=(List.getElem?_eq_some_iff.1 a).1;have p:i=xs.length:=by simp at o;omega
    subst p;simp at a;exact a.symm
   intro i j x y P a B;by_cases n:i<xs.length
   .by_cases v:j<xs.length
    .exact W i j x y P (t i x n a) (t j y v B)
    .have U:=J j y v B
     subst U
     cases e:x.ownBlock with
     | none=>exact .inl rfl
     | some f =>
      refine .inr fun c=>?_
      have Z:=F i x f (t i x n a) e;have l2:=(World.ownsRow.lt A f c.symm).1;omega
   .have S:=J i x n a
    subst S;by_cases v:j<xs.length
    .cases e:y.ownBlock with
     | none =>
      cases e2:x.ownBlock with
      | none=>exact .inl rfl
      | some f=>exact .inr fun c=>by cases c
     | some gy =>
      refine .inr fun c=>?_
      have Z:=F j y gy (t j y v B) e;have l2:=(World.ownsRow.lt A gy c).1;omega
    .exfalso
     have o:=(List.getElem?_eq_some_iff.1 a).1;have p:=(List.getElem?_eq_some_iff.1 B).1;simp at o p;omega
  .intro V O
   exact (World.ownsRow.lt G V O).2
  .intro i x f a H
   by_cases n:i<xs.length
   .rw[List.getElem?_append_left n]at a
    exact Nat.lt_of_lt_of_le (F i x f a H) (Nat.le_trans h.tl d.size)
   .have o:=(List.getElem?_eq_some_iff.1 a).1
    have p:i=xs.length:=by simp at o;omega
    subst p;simp at a;subst a;exact Nat.lt_of_lt_of_le (World.ownsRow.lt A f H).2 d.size
 have N:u'.heap[b]? = some (.cells (rdC l vE st) 184):=by
  rw[d.block b h.lt (fun c=>by have:=m b c.symm;omega)];exact h.blk
 have M:Below b w u':=Below.grown h.be d (Nat.le_of_lt h.lt) (fun j hj=>by have:=m j hj;omega);have D:dr u':=⟨h.tab.1.grown d (fun j hj=>by have:=m j hj;have:=h.tb.1;omega),h.tab.2.1.grown d (fun j hj=>by have:=m j hj;have:=h.tb.2.1;omega),h.tab.2.2.grown d (fun j hj=>by have:=m j hj;have:=h.tb.2.2;omega)⟩;refine⟨?_,X.grown (au u' b 1 _) (Nat.lt_succ_self _),by simp,M.setCell bR _,⟨D.1.set h.tb.1,D.2.1.set h.tb.2.1,D.2.2.set h.tb.2.2⟩,h.tb⟩;rw[heap_setCell_same u' b 1 _ _ _ N];rfl
theorem am3 (t:List UInt8) (ht:t.length<=1048576) (w:World) :
  Calls prog 164 #[.string ⟨t.toArray⟩,.string ⟨#[32]⟩] w fun e w'=>∃ b,e=.returned (.tuple #[.string ⟨(Ag t).1.toArray⟩,.string ⟨(Ag t).2.toArray⟩,.bool b])/\∃ n,w'=w.drewN n:=by
 have A:=fun w=>Rd t ht w
 generalize (⟨(Ag t).1.toArray⟩:ByteArray)=x1 at *;generalize (⟨(Ag t).2.toArray⟩:ByteArray)=x2 at *;generalize (⟨t.toArray⟩:ByteArray)=s at *;go_enter func164,ntmps164;go_wp2_with fail;refine (A _).mono ?_;rintro e c ⟨a,rfl,n,rfl⟩;clear A;go_wp2;go_ret3
 exact⟨_,rfl,n,rfl⟩
theorem RdM.drewN {w u:World} {b T:Nat} {l:List UInt8} {st:RS} {vE:Value}(h:RdM w u b T l st vE) (n:Nat):RdM w (u.drewN n) b T l st vE:=h.step (below_drewN bX n)
theorem vt {w u:World} {b T:Nat} {l:List UInt8} {st:RS} {vE:Value}(h:RdM w u b T l st vE) (j:l.length<=1048576) :
  Calls prog 142 #[.pointer (some ⟨b,0,none⟩)] u fun e u'=>e=.returned (.string (wdB l))/\RdM w u' b T (wdR l) st vE:=by
 have A:=fun w=>ai8 l w
 have C:=fun w=>am3 (l.dropWhile (· == 32)) (Nat.le_trans (List.dropWhile_sublist (fun x=>x == 32)).length_le j) w
 rw[<- a03]at C;have f:Hid _:=h;obtain⟨o,_,_,_,_,_,_,_,_,p⟩:=h.cells;have k:=h.lt;have g:Hid (∀ n,RdM w ((u.drewN n).setCell ⟨b,0,none⟩ (.string ⟨(dn l).2.toArray⟩)) b T (dn l).2 st vE):=fun n=>(f.out.drewN n).set (l':=(dn l).2) (st':=st) (vE':=vE) rfl rfl rfl
 unfold wdB wdR;generalize (⟨(dn l).1.toArray⟩:ByteArray)=x1 at *;have d:Hid (∀ n x,x=(⟨(dn l).2.toArray⟩:ByteArray)->RdM w ((u.drewN n).setCell ⟨b,0,none⟩ (.string x)) b T (dn l).2 st vE):=fun n x hx=>by rw[hx];exact g.out n
 obtain⟨a,c⟩:∃ a,a=(⟨(dn l).2.toArray⟩:ByteArray):=⟨_,rfl⟩
 rw[<- c]at C;have i:Hid (∀ n,RdM w ((u.drewN n).setCell ⟨b,0,none⟩ (.string a)) b T (dn l).2 st vE):=fun n=>d.out n a c
 clear g d c f h;generalize (⟨(l.dropWhile (· == 32)).toArray⟩:ByteArray)=x3 at *;generalize (⟨l.toArray⟩:ByteArray)=x4 at *;go_enter func142,ntmps142;go_wp2_with fail;refine (A _).mono ?_;rintro e q ⟨rfl,rfl⟩;clear A;go_wp2_with fail;refine (C _).mono ?_;rintro e r ⟨m,rfl,n,rfl⟩;clear C;go_wp2;go_ret;exact⟨rfl,i.out n⟩
def jR (x:ByteArray):List Int:=if jOk x=true then nD (Dec.decT x.size x).1 else []
theorem an9 {x:ByteArray}(h:ok4 x=true):jOk x=bd (rn4 x):=by
 unfold jOk;rw[decide_eq_true (of_decide_eq_true h).1,Bool.true_and];rfl
theorem au5 {x:ByteArray}(h:ok4 x=false):jOk x=false:=by
 unfold jOk;by_cases c:x.size<=200
 .rw[decide_eq_true c,Bool.true_and]
  cases d:bd (nD (Dec.decT x.size x).1)
  .rfl
  .have:=eg d
   exact absurd ⟨c,by unfold rn4;omega⟩ (of_decide_eq_false h)
 .rw[decide_eq_false c,Bool.false_and]
theorem Er (x:ByteArray) (n:x.size<=1048576) (u:World) (ht:dr u) :
  Calls prog 166 #[.string x] u fun e u'=>∃ v,e=.returned (.tuple #[v,.bool (jOk x)])/\ab u' u.heap.size v (jR x)/\Below u.heap.size u u':=by
 have A:=fun w=>Gl x n w
 have m:=Xs x;unfold jR
 cases h:ok4 x
 .rw[au5 h]
  have a:=A u ht;rw[h]at a;simp only[Bool.false_eq_true,if_false];clear A h ht;go_enter func166,ntmps166;go_wp2_with fail;refine a.mono ?_;rintro e j ⟨i,rfl,f,b⟩;clear a;go_wp2;go_ret2;exact⟨_,rfl,⟨rfl,.inl ⟨rfl,rfl⟩⟩,b⟩
 .have a:=A u ht
  have c:aR x=rn4 x:=by unfold aR;rw[h];rfl
  rw[an9 h];rw[h,c]at a;rw[c]at m;change Calls prog 166 #[.string x] u fun e u'=>∃ v,e=.returned (.tuple #[v,.bool (bd (rn4 x))])/\ab u' u.heap.size v (if bd (rn4 x)=true then rn4 x else [])/\Below u.heap.size u u'
  generalize rn4 x=r at *;have J:=fun (u':World) (v:Value) (B:Nat) (l:Below u.heap.size u u') (k:ab u' B v r)=>Au (by omega) k (ht.below l)
  clear A h c ht
  cases c:bd r
  .rw[c]at J
   simp only[Bool.false_eq_true,if_false];go_enter func166,ntmps166;go_wp2_with fail;refine a.mono ?_;rintro e j ⟨i,rfl,f,b⟩;have d:=J _ _ _ b f;clear a J;go_wp2_with fail;refine d.mono ?_;rintro e p ⟨rfl,g⟩;clear d;go_wp2;go_ret2;exact⟨_,rfl,⟨rfl,.inl ⟨rfl,rfl⟩⟩,b.trans (g.mono b.size)⟩
  .rw[c]at J
   simp only[if_true];go_enter func166,ntmps166;go_wp2_with fail;refine a.mono ?_;rintro e j ⟨i,rfl,f,b⟩;have d:=J _ _ _ b f;clear a J;go_wp2_with fail;refine d.mono ?_;rintro e p ⟨rfl,g⟩;clear d;have o:=f.below g;go_wp2;go_ret2;exact⟨_,rfl,o,b.trans (g.mono b.size)⟩
theorem ac6 (st:RS) (x:ByteArray):si st x=if (x.toList == [49,93])=true then .ok { st with lv:=1 } else if (x.toList == [50,93])=true then .ok { st with lv:=2 } else if (x.toList == [51,93])=true then .ok { st with lv:=3 } else if (x.toList == [52,93])=true then .ok { st with lv:=4 } else .error 2:=by
 unfold si;rw[ac2];repeat' split
 all_goals simp_all
def Out (w u':World) (b:Nat) (l:List UInt8) (r:Except Int RS) (c:Int):Prop:=(r=.error c/\c≠0/\Below b w u')\/∃ st T vE,r=.ok st/\c=0/\RdM w u' b T l st vE
theorem Vs {w u:World} {b T:Nat} {l:List UInt8} {st:RS} {vE:Value}(h:RdM w u b T l st vE) (s:l.length<=1048576) :
  Calls prog 143 #[.pointer (some ⟨b,0,none⟩)] u fun e u'=>∃ c,e=.returned (.int .i64 c)/\Out w u' b (wdR l) (si st (wdB l)) c:=by
 have f:=vt h s;have d:Hid (si st (wdB l)=if ((wdB l).toList == [49,93])=true then .ok { st with lv:=1 } else if ((wdB l).toList == [50,93])=true then .ok { st with lv:=2 } else if ((wdB l).toList == [51,93])=true then .ok { st with lv:=3 } else if ((wdB l).toList == [52,93])=true then .ok { st with lv:=4 } else .error 2):=ac6 st (wdB l);clear h;generalize si st (wdB l)=R at *;generalize wdB l=x at *;generalize wdR l=l2 at *;by_cases g:(x.toList == [49,93])=true
 .have i:Hid (R=.ok { st with lv:=1 }):=d.out.trans (by rw[if_pos g])
  clear d;go_enter func143,ntmps143;go_wp2_with fail;refine f.mono ?_;rintro e u1 ⟨rfl,a⟩;have m:Hid (RdM w (u1.setCell ⟨b,3,none⟩ (.int .i64 1)) b T l2 { st with lv:=1 } vE):=a.set rfl rfl rfl;obtain⟨_,_,_,k,_,_,_,_,_,p⟩:=a.cells;have o:=a.lt;clear f a;go_wp2;go_ret;exact⟨0,rfl,.inr ⟨_,_,_,i.out,rfl,m.out⟩⟩
 .have t:(x.toList == [49,93])=false:=by simpa using g
  by_cases j:(x.toList == [50,93])=true
  .have i:Hid (R=.ok { st with lv:=2 }):=d.out.trans (by rw[if_neg g,if_pos j])
   clear d g;go_enter func143,ntmps143;go_wp2_with fail;refine f.mono ?_;rintro e u1 ⟨rfl,a⟩;have m:Hid (RdM w (u1.setCell ⟨b,3,none⟩ (.int .i64 2)) b T l2 { st with lv:=2 } vE):=a.set rfl rfl rfl;obtain⟨_,_,_,k,_,_,_,_,_,p⟩:=a.cells;have o:=a.lt;clear f a;go_wp2;go_ret;exact⟨0,rfl,.inr ⟨_,_,_,i.out,rfl,m.out⟩⟩
  .have v:(x.toList == [50,93])=false:=by simpa using j
   by_cases k:(x.toList == [51,93])=true
   .have i:Hid (R=.ok { st with lv:=3 }):=d.out.trans (by rw[if_neg g,if_neg j,if_pos k])
    clear d g j;go_enter func143,ntmps143;go_wp2_with fail;refine f.mono ?_;rintro e u1 ⟨rfl,a⟩;have m:Hid (RdM w (u1.setCell ⟨b,3,none⟩ (.int .i64 3)) b T l2 { st with lv:=3 } vE):=a.set rfl rfl rfl;obtain⟨_,_,_,q,_,_,_,_,_,p⟩:=a.cells;have o:=a.lt;clear f a;go_wp2;go_ret;exact⟨0,rfl,.inr ⟨_,_,_,i.out,rfl,m.out⟩⟩
   .have q:(x.toList == [51,93])=false:=by simpa using k
    by_cases n:(x.toList == [52,93])=true
    .have i:Hid (R=.ok { st with lv:=4 }):=d.out.trans (by rw[if_neg g,if_neg j,if_neg k,if_pos n])
     clear d g j k;go_enter func143,ntmps143;go_wp2_with fail;refine f.mono ?_;rintro e u1 ⟨rfl,a⟩;have m:Hid (RdM w (u1.setCell ⟨b,3,none⟩ (.int .i64 4)) b T l2 { st with lv:=4 } vE):=a.set rfl rfl rfl;obtain⟨_,_,_,y,_,_,_,_,_,p⟩:=a.cells;have o:=a.lt;clear f a;go_wp2;go_ret;exact⟨0,rfl,.inr ⟨_,_,_,i.out,rfl,m.out⟩⟩
    .have z:(x.toList == [52,93])=false:=by simpa using n
     have i:Hid (R=.error 2):=d.out.trans (by rw[if_neg g,if_neg j,if_neg k,if_neg n]);clear d g j k n;go_enter func143,ntmps143;go_wp2_with fail;refine f.mono ?_;rintro e u1 ⟨rfl,a⟩;have r:Hid _:=a.be;clear f a;go_wp2;go_ret;exact⟨2,rfl,.inl ⟨i.out,by decide,r.out⟩⟩
theorem Pp (l:List UInt8):(wdB l).size<=l.length/\(wdR l).length<=l.length:=⟨(Hu l).1,(Hu l).2⟩
theorem Yt {es:List Ent} {lv:Int} {l:List Int}(h1:ay es lv=true) (h2:bd l=true):mr es lv l=fj es l:=by
 unfold mr;rw[if_pos ⟨h1,h2⟩]
theorem Wb {st:RS} {l:List Int}(h:bd l=true) (h2:fj st.es l=none):d8 st 0 l=.error 3:=by
 unfold d8;rw[if_neg (by simp[h]),if_pos rfl,h2]
theorem a17 {st:RS} {l:List Int} {e:El}(h:bd l=true) (h2:fj st.es l=some e) (a:e.varies=true):d8 st 0 l=.error 3:=by
 unfold d8;rw[if_neg (by simp[h]),if_pos rfl,h2];simp only;rw[if_pos a]
theorem Rj {st:RS} {l:List Int} {e:El}(h:bd l=true) (h2:fj st.es l=some e) (a:e.varies=false):d8 st 0 l=.ok { st with last:=e,reset:=true }:=by
 unfold d8;rw[if_neg (by simp[h]),if_pos rfl,h2];simp only;rw[if_neg (by simp[a])]
theorem gj.len {st:RS}(h:gj st):st.es.length<=1048576/\∀ e ∈ st.es,e.runes.length<=1048576:=by
 obtain⟨b,_,a⟩:=cg h.good;exact⟨by omega,fun e he=>Nat.le_trans (eg (a e he).1) (by omega)⟩
theorem a26 {w u:World} {b T:Nat} {l:List UInt8} {st:RS} {vE:Value}(h:RdM w u b T l st vE) (S:l.length<=1048576) (hi:gj st) :
  Calls prog 144 #[.pointer (some ⟨b,0,none⟩)] u fun e u'=>∃ c,e=.returned (.int .i64 c)/\Out w u' b (wdR l) (nc st 0 (wdB l)) c:=by
 have t:=vt h S;have W:(wdB l).size<=1048576:=Nat.le_trans (Pp l).1 S;have U:=hZ hi;have N:=hi.len;have J:Hid (jOk (wdB l)=false->nc st 0 (wdB l)=.error 2):=fun c=>J4 c
 have L:Hid (jOk (wdB l)=true->nc st 0 (wdB l)=d8 st 0 (jR (wdB l))/\bd (jR (wdB l))=true):=fun c=>by
  have e:jR (wdB l)=nD (Dec.decT (wdB l).size (wdB l)).1:=by unfold jR;rw[if_pos c]
  rw[e];refine⟨Oj c,?_⟩;unfold jOk at c;rw[Bool.and_eq_true]at c;exact c.2
 clear h hi;generalize nc st 0 (wdB l)=R at *;generalize wdR l=l2 at *;have s:=fun (u:World) (V:dr u)=>Er (wdB l) W u V
 generalize jR (wdB l)=r at *;generalize hj:jOk (wdB l)=jo at *;generalize wdB l=x at *;clear hj
 cases jo
 .have d:Hid (R=.error 2):=J.out rfl
  clear J L;go_enter func144,ntmps144;go_wp2_with fail;refine t.mono ?_;rintro e u1 ⟨rfl,f⟩;clear t;have p:=s _ f.tab;have n:Hid _:=f;clear s f;go_wp2_with fail;refine p.mono ?_;rintro e u2 ⟨X,rfl,M,v⟩;have m:Hid (Below _ _ _):=(n.out.step v).be;clear p n;go_wp2;go_ret;exact⟨2,rfl,.inl ⟨d.out,by decide,m.out⟩⟩
 .obtain⟨k,a⟩:=L.out rfl
  have Y:=eg a;clear J L;go_enter func144,ntmps144;go_wp2_with fail;refine t.mono ?_;rintro e u1 ⟨rfl,f⟩;clear t;have p:=s _ f.tab;have n:Hid _:=f;clear s f;go_wp2_with fail;refine p.mono ?_;rintro e u2 ⟨X,rfl,M,v⟩;have i:=n.out.step v;have E:=Iw (sh:=st.sh) (lv:=st.lv) i.en.ents M N.1 (by omega) N.2 i.tab;rw[Yt U.out.good a]at E;obtain⟨y,z,A,B,C,D,F,G,H,I⟩:=i.cells;have O:=i.lt;have g:Hid _:=i;clear p n i M v
  cases ho:fj st.es r with
  | none =>
   rw[ho]at E;have d:=hZ (k.trans (Wb a ho));unfold fo ph elV at E;simp only[Option.getD_none,Option.isSome_none]at E;clear k ho a;go_wp2_with fail;refine E.mono ?_;rintro e u3 ⟨rfl,j⟩;have m:Hid (Below _ _ _):=((g.out.step j).step ((Below.refl u3.heap.size u3).alloc bR (.cells #[.int .i64 0,.int .i64 0,.int .i64 0,.bool false] 111))).be;clear E g y z A B C D F G H I;go_wp2;go_ret;exact⟨3,rfl,.inl ⟨d.out,by decide,m.out⟩⟩
  | some x1 =>
   rw[ho]at E;unfold fo ph elV at E;simp only[Option.getD_some,Option.isSome_some]at E
   cases hv:x1.varies
   .have d:=hZ (k.trans (Rj a ho hv))
    rw[hv]at E;clear k ho a;go_wp2_with fail;refine E.mono ?_;rintro e u3 ⟨rfl,j⟩;have q:=g.out.step j;clear y z A B C D F G H I O;obtain⟨y,z,A,B,C,D,F,G,H,I⟩:=q.cells;have O:=q.lt;have P:RdM w (ym u3 b x1) b T l2 { st with last:=x1 } vE:=q.setLast x1;have Q:RdM w ((ym u3 b x1).setCell ⟨b,8,none⟩ (.bool true)) b T l2 { st with last:=x1,reset:=true } vE:=P.set rfl rfl rfl;have K:Hid (∀ o,RdM w (((ym u3 b x1).setCell ⟨b,8,none⟩ (.bool true)).alloc o) b T l2 { st with last:=x1,reset:=true } vE):=fun o=>Q.step (bY o)
    unfold ym at K;rw[hv]at K;clear E g q P Q;go_wp2;go_ret;exact⟨0,rfl,.inr ⟨_,_,_,d.out,rfl,K.out _⟩⟩
   .have d:=hZ (k.trans (a17 a ho hv))
    rw[hv]at E;clear k ho a;go_wp2_with fail;refine E.mono ?_;rintro e u3 ⟨rfl,j⟩;have m:Hid (Below _ _ _):=(g.out.step j).be;have Z:=j.size;clear E g y z A B C D F G H I;go_wp2;go_ret;exact⟨3,rfl,.inl ⟨d.out,by decide,m.out.alloc (by omega) _⟩⟩
def l4 (u:World) (s:Nat) (e:El):Prop:=u.heap[s]? = some (.cells #[.int .i64 e.first,.int .i64 e.second,.int .i64 e.third,.bool e.varies] 111)/\u.heap[s+1]? = some (.cells #[.int .i64 0,.int .i64 0,.int .i64 0,.bool false] 111)
theorem l4.sizes {u:World} {s:Nat} {e:El}(h:l4 u s e):s<u.heap.size/\s+1<u.heap.size:=⟨(Array.getElem?_eq_some_iff.1 h.1).1,(Array.getElem?_eq_some_iff.1 h.2).1⟩
theorem l4.elem {u:World} {s:Nat} {e:El}(h:l4 u s e):u.cell? ⟨s,0,none⟩=some (.int .i64 e.first)/\u.cell? ⟨s,1,none⟩=some (.int .i64 e.second)/\u.cell? ⟨s,2,none⟩=some (.int .i64 e.third)/\u.cell? ⟨s,3,none⟩=some (.bool e.varies) :=
 ⟨cell_of_row _ _ 0 _ _ _ h.1,cell_of_row _ _ 1 _ _ _ h.1,cell_of_row _ _ 2 _ _ _ h.1,cell_of_row _ _ 3 _ _ _ h.1⟩
theorem l4.result {u:World} {s:Nat} {e:El}(h:l4 u s e):u.cell? ⟨s+1,0,none⟩=some (.int .i64 0)/\u.cell? ⟨s+1,1,none⟩=some (.int .i64 0)/\u.cell? ⟨s+1,2,none⟩=some (.int .i64 0)/\u.cell? ⟨s+1,3,none⟩=some (.bool false)/\∀ j,u.frozen? ⟨s+1,j,none⟩=false :=
 ⟨cell_of_row _ _ 0 _ _ _ h.2,cell_of_row _ _ 1 _ _ _ h.2,cell_of_row _ _ 2 _ _ _ h.2,cell_of_row _ _ 3 _ _ _ h.2,fun j=>by simp[World.frozen?,h.2]⟩
theorem l4.below {u u':World} {s:Nat} {e:El}(h:l4 u s e) (a:Below u.heap.size u u'):l4 u' s e:=by
 have b:=h.sizes;exact⟨by rw[a.block _ b.1];exact h.1,by rw[a.block _ b.2];exact h.2⟩
theorem Fh (w:World) (e:El):l4 ((w.alloc (.cells #[.int .i64 e.first,.int .i64 e.second,.int .i64 e.third,.bool e.varies] 111)).alloc (.cells #[.int .i64 0,.int .i64 0,.int .i64 0,.bool false] 111)) w.heap.size e :=
 ⟨by rw[Below.heap_alloc _ _ _ (by simp)];exact heap_alloc_new w _,heap_alloc2_new w _ _⟩
theorem Ac (w:World) (e:El):Below w.heap.size w ((w.alloc (.cells #[.int .i64 e.first,.int .i64 e.second,.int .i64 e.third,.bool e.varies] 111)).alloc (.cells #[.int .i64 0,.int .i64 0,.int .i64 0,.bool false] 111)) :=
 ((Below.refl w.heap.size w).alloc bR _).alloc (by simp) _
theorem Qs {es:List Ent} {m:Int}(h:ff m=true):du es m=false:=by unfold du;rw[h];rfl
theorem N6 {es:List Ent} {m:Int}(h:ff m=false):du es m=!d6 es (q1 m):=by
 unfold du d6 q1;rw[h,Bool.not_false,Bool.true_and,List.not_any_eq_all_not];rfl
def B1i (w:World) (e:El) (es:List Ent) (N:Int) (i:Value) (wr:World):Prop:=∃ m:Int,i=.int .i64 m/\0<=m/\m<=65536/\ke es (65536-m).toNat m=N/\l4 wr w.heap.size e/\Below w.heap.size w wr
theorem M6 {w:World} {B:Nat} {v:Value} {es:List Ent} {e:El}(G:ac w B v es) (hn:es.length<=1048576) (o:∀ e ∈ es,e.el.first<=65535) (h0:0<=e.first) (h1:e.first<=65535) (H:db w 7 ij) :
  Calls prog 169 #[v,.agg #[.int .i64 e.first,.int .i64 e.second,.int .i64 e.third,.bool e.varies],.int .i64 1] w fun x w'=>x=.returned (elV ⟨ke es (65535-e.first).toNat (e.first+1),32,2,false⟩)/\Below w.heap.size w w':=by
 have h:Hid (Below _ _ _):=Ac w e;have l:Hid (l4 _ _ _):=Fh w e;have E:Hid (ac _ _ _ _):=G;have y:=hZ H;have P:=fun n w=>nl n w
 obtain⟨N,b⟩:∃ N,Hid (ke es (65535-e.first).toNat (e.first+1)=N):=⟨_,rfl⟩
 rw[b.out];have D:Hid (ke es (65536-(e.first+1)).toNat (e.first+1)=N):=by
  show _=_
  rw[show 65536-(e.first+1)=65535-e.first by omega];exact b.out
 clear G b H;go_enter func169,ntmps169;go_wp2_with fail;go_loopw [7] (fun i wr=>B1i w e es N i wr) (fun i _=>(65536-intOf i).toNat)
 case atStart=>exact⟨e.first+1,rfl,by omega,by omega,D.out,l.out,h.out⟩
 case round =>
  clear D l h;obtain⟨m,rfl,Q,R,I,J,r⟩:=hrel;have b:=hZ I;have F:=Vk m wr (y.out.below r y.out.lt);have l:Hid (l4 _ _ _):=J;have h:Hid _:=r;have C:Hid (ac _ _ _ _):=E.out.below r;clear I J r E y;go_wp2_with fail;refine F.mono ?_;rintro A V ⟨rfl,q⟩;have k:Hid (l4 _ _ _):=l.out.below q;have d:Hid _:=h.out.trans (q.mono h.out.size);have f:=aa8 m (C.out.below q) hn;clear F q l h C
  cases ht:ff m
  .cases hf:d6 es (q1 m)
   .rw[hf]at f
    have a:du es m=true:=by rw[N6 ht,hf];rfl
    have L:m=N:=(If a).symm.trans b.out;subst L;clear b o a hf ht;go_wp2_with fail;refine f.mono ?_;rintro A M ⟨rfl,g⟩;have p:Hid (l4 _ _ _):=k.out.below g;have j:Hid _:=d.out.trans (g.mono d.out.size);clear f g k d;go_wp2_with fail;refine (P _ _).mono ?_;rintro A W ⟨rfl,z⟩;have u:=p.out.below z;have K:=j.out.trans (z.mono j.out.size);obtain⟨U,q1,q2,q3,O⟩:=u.result;obtain⟨S,T⟩:=u.sizes;clear P u p j z;go_wp2;refine bodyPost_ret (v:=.agg #[.int .i64 m,.int .i64 32,.int .i64 2,.bool false]) ?_ rfl ⟨rfl,fg K _ _ _ _⟩;rw[av rfl];go_simp
   .rw[hf]at f
    have a:du es m=false:=by rw[N6 ht,hf];rfl
    have t:m<65536:=by
     by_cases c:m=65536
     .subst c;rw[xi o]at a;cases a
     .omega
    have s:Hid (ke es (65536-(m+1)).toNat (m+1)=N):=(Bj a t).symm.trans b.out;clear b o a hf ht P;go_wp2_with fail;refine f.mono ?_;rintro A M ⟨rfl,g⟩;have p:Hid (l4 _ _ _):=k.out.below g;have j:Hid _:=d.out.trans (g.mono d.out.size);clear f g k d;go_wp2;exact⟨⟨m+1,by go_num,by omega,by omega,s.out,p.out,j.out⟩,by simp[intOf];omega⟩
  .have a:du es m=false:=Qs ht
   have t:m<65536:=by
    by_cases c:m=65536
    .subst c;rw[xi o]at a;cases a
    .omega
   have s:Hid (ke es (65536-(m+1)).toNat (m+1)=N):=(Bj a t).symm.trans b.out;clear b o a ht P f;go_wp2;exact⟨⟨m+1,by go_num,by omega,by omega,s.out,k.out,d.out⟩,by simp[intOf];omega⟩
def B2i (w:World) (e:El) (es:List Ent) (N:Int) (i:Value) (wr:World):Prop:=∃ m:Int,i=.int .i64 m/\0<=m/\m<=1000/\jt (fun n=>d6 es (q2 e n)) nx2 999 m N/\l4 wr w.heap.size e/\Below w.heap.size w wr
theorem Sv {es:List Ent} {q:El->Bool}(h:d6 es q=true):∃ x ∈ es,q x.el=true:=List.any_eq_true.1 h
theorem M7 {w:World} {B:Nat} {v:Value} {es:List Ent} {e:El}(u:ac w B v es) (hn:es.length<=1048576) (p:∀ x ∈ es,x.el.second<=999) (h0:0<=e.second) (h1:e.second<=999) :
  Calls prog 169 #[v,.agg #[.int .i64 e.first,.int .i64 e.second,.int .i64 e.third,.bool e.varies],.int .i64 2] w fun x w'=>x=.returned (elV (zm es e))/\Below w.heap.size w w':=by
 have a:Hid (Below _ _ _):=Ac w e;have c:Hid (l4 _ _ _):=Fh w e;have t:Hid (ac _ _ _ _):=u;unfold zm;obtain⟨N,b⟩:∃ N,Hid (o7 (fun n=>d6 es (q2 e n)) nx2 1001 (e.second+1)=N):=⟨_,rfl⟩
 rw[b.out];have s:Hid (jt (fun n=>d6 es (q2 e n)) nx2 999 (e.second+1) N):=⟨1001,by omega,b.out⟩;clear u b;go_enter func169,ntmps169;go_wp2_with fail;go_loopw [8] (fun i wr=>B2i w e es N i wr) (fun i _=>(1000-intOf i).toNat)
 case atStart=>exact⟨e.second+1,rfl,by omega,by omega,s.out,c.out,a.out⟩
 case round =>
  clear s c a;obtain⟨m,rfl,J,K,y,g,q⟩:=hrel;have b:Hid (jt _ _ _ _ _):=y;have f:=ab1 e.first m (t.out.below q) hn
  obtain⟨j,k,l,o⟩:=g.elem;have c:Hid (l4 _ _ _):=g;have a:Hid _:=q;clear y g q t
  cases hf:d6 es (q2' e.first m)
  .rw[hf]at f
   have G:m=N:=b.out.last hf;subst G;clear b p hf;go_wp2_with fail;refine f.mono ?_;rintro F H ⟨rfl,d⟩;have h:=c.out.below d;have E:=a.out.trans (d.mono a.out.size);clear f d c a j k l o;obtain⟨j,k,l,o⟩:=h.elem;obtain⟨O,q1,q2,q3,I⟩:=h.result;obtain⟨L,M⟩:=h.sizes;clear h;go_wp2;refine bodyPost_ret (v:=.agg #[.int .i64 e.first,.int .i64 m,.int .i64 2,.bool false]) ?_ rfl ⟨rfl,fg E _ _ _ _⟩;rw[av rfl];go_simp
  .rw[hf]at f
   have D:m<=999:=by
    obtain⟨x,g,r⟩:=Sv hf;unfold q2' at r;rw[Bool.and_eq_true]at r;have:=p x g;have:=eq_of_beq r.2;omega
   have A:Hid (jt (fun n=>d6 es (q2 e n)) nx2 999 (m+1) N):=b.out.next hf D (by unfold nx2;omega)
   clear b p hf;go_wp2_with fail;refine f.mono ?_;rintro F H ⟨rfl,d⟩;have C:Hid (l4 _ _ _):=c.out.below d;have z:Hid _:=a.out.trans (d.mono a.out.size);clear f d c a j k l o;go_wp2;exact⟨⟨m+1,by go_num,by omega,by omega,A.out,C.out,z.out⟩,by simp[intOf];omega⟩
def B3i (w:World) (e:El) (es:List Ent) (N:Int) (i:Value) (wr:World):Prop:=∃ m:Int,i=.int .i64 m/\0<=m/\m<=100/\jt (fun n=>d6 es (q3 e n)) nx3 99 (if m=8 then 9 else m) N/\l4 wr w.heap.size e/\Below w.heap.size w wr
theorem M8 {w:World} {B:Nat} {v:Value} {es:List Ent} {e:El}(C:ac w B v es) (hn:es.length<=1048576) (l:∀ x ∈ es,x.el.third<=99) (h0:0<=e.third) (h1:e.third<=99) :
  Calls prog 169 #[v,.agg #[.int .i64 e.first,.int .i64 e.second,.int .i64 e.third,.bool e.varies],.int .i64 3] w fun x w'=>x=.returned (elV (qm es e))/\Below w.heap.size w w':=by
 have a:Hid (Below _ _ _):=Ac w e;have c:Hid (l4 _ _ _):=Fh w e;have z:Hid (ac _ _ _ _):=C;unfold qm;obtain⟨N,b⟩:∃ N,Hid (o7 (fun n=>d6 es (q3 e n)) nx3 1001 (nx3 e.third)=N):=⟨_,rfl⟩
 rw[b.out];have y:Hid (jt (fun n=>d6 es (q3 e n)) nx3 99 (if e.third+1=8 then 9 else e.third+1) N):=by
  refine⟨1001,by split <;> omega,?_⟩;rw[<- b.out];congr 1
  unfold nx3;split <;> omega
 clear C b;go_enter func169,ntmps169;go_wp2_with fail;go_loopw [9] (fun i wr=>B3i w e es N i wr) (fun i _=>(100-intOf i).toNat)
 case atStart=>exact⟨e.third+1,rfl,by omega,by omega,y.out,c.out,a.out⟩
 case round =>
  clear y c a;obtain⟨m,rfl,P,Q,D,j,t⟩:=hrel;have b:Hid (jt _ _ _ _ _):=D;have d:=ab4 e.first e.second m (z.out.below t) hn
  obtain⟨p,q,r,s⟩:=j.elem;have c:Hid (l4 _ _ _):=j;have a:Hid _:=t;clear D j t z;by_cases h:m=8
  .subst h
   have o:Hid (jt (fun n=>d6 es (q3 e n)) nx3 99 (if (9:Int)=8 then 9 else 9) N):=by
    have:=b.out;rw[if_pos rfl]at this;rw[if_neg (by omega)];exact this
   clear b l d;go_wp2;exact⟨⟨9,by go_num,by omega,by omega,o.out,c.out,a.out⟩,by simp[intOf]⟩
  .have M:(m == 8)=false:=by simpa using h
   have g:=b.out;rw[if_neg h]at g
   cases hf:d6 es (q3' e.first e.second m)
   .rw[hf]at d
    have K:m=N:=g.last hf;subst K;clear b g l hf h;go_wp2_with fail;refine d.mono ?_;rintro I L ⟨rfl,f⟩;have k:=c.out.below f;have H:=a.out.trans (f.mono a.out.size);clear d f c a p q r s;obtain⟨p,q,r,s⟩:=k.elem;obtain⟨T,q1,q2,q3,O⟩:=k.result;obtain⟨R,S⟩:=k.sizes;clear k;go_wp2;refine bodyPost_ret (v:=.agg #[.int .i64 e.first,.int .i64 e.second,.int .i64 m,.bool false]) ?_ rfl ⟨rfl,fg H _ _ _ _⟩;rw[av rfl];go_simp
   .rw[hf]at d
    have G:m<=99:=by
     obtain⟨x,j,u⟩:=Sv hf;unfold q3' at u;rw[Bool.and_eq_true]at u;have:=l x j;have:=eq_of_beq u.2;omega
    have o:Hid (jt (fun n=>d6 es (q3 e n)) nx3 99 (if m+1=8 then 9 else m+1) N):=by
     have A:=g.next hf G (Cq m)
     have J:nx3 m=(if m+1=8 then 9 else m+1):=by
      unfold nx3;split <;> omega
     rw[J]at A;exact A
    clear b g l hf h;go_wp2_with fail;refine d.mono ?_;rintro I L ⟨rfl,f⟩;have F:Hid (l4 _ _ _):=c.out.below f;have E:Hid _:=a.out.trans (f.mono a.out.size);clear d f c a p q r s;go_wp2;exact⟨⟨m+1,by go_num,by omega,by omega,o.out,F.out,E.out⟩,by simp[intOf];omega⟩
theorem Q5 {w:World} {B:Nat} {v:Value} {st:RS} {n:Nat}(b:ac w B v st.es) (hi:gj st) (h:n=1\/n=2\/n=3) (c:db w 7 ij) :
  Calls prog 169 #[v,.agg #[.int .i64 st.last.first,.int .i64 st.last.second,.int .i64 st.last.third,.bool st.last.varies],.int .i64 (n:Int)] w fun x w'=>x=.returned (elV (gk st.es st.last n))/\Below w.heap.size w w':=by
 obtain⟨d,f,a⟩:=cg hi.good;rcases h with rfl|rfl|rfl
 .exact M6 b (by omega) (fun e he=>(a e he).2.1.2) hi.f0 hi.f1 c
 .exact M7 b (by omega) (fun e he=>(a e he).2.2.1.2) hi.s0 hi.s1
 .exact M8 b (by omega) (fun e he=>(a e he).2.2.2.1.2) hi.t0 hi.t1
theorem Lf {st:RS} {lev:Nat} {l:List Int}(h:bd l=true) (a:lev≠0) (h2:st.reset=false):d8 st lev l=.error 3:=by
 unfold d8;rw[if_neg (by simp[h]),if_neg a,if_pos h2]
theorem W6 {st:RS} {lev:Nat} {l:List Int}(h:bd l=true) (b:lev≠0) (h2:st.reset=true) (a:0<=atE st.es l):d8 st lev l=.error 4:=by
 unfold d8;rw[if_neg (by simp[h]),if_neg b,if_neg (by simp[h2]),if_pos a]
theorem Wa {st:RS} {lev:Nat} {l:List Int}(h:bd l=true) (c:lev≠0) (h2:st.reset=true) (a:¬ 0<=atE st.es l) (b:ay (st.es++[⟨l,gk st.es st.last lev⟩]) st.lv=false):d8 st lev l=.error 5:=by
 unfold d8;rw[if_neg (by simp[h]),if_neg c,if_neg (by simp[h2]),if_neg a,if_neg (by simp[b])]
theorem af0 {st:RS} {lev:Nat} {l:List Int}(h:bd l=true) (c:lev≠0) (h2:st.reset=true) (a:¬ 0<=atE st.es l) (b:ay (st.es++[⟨l,gk st.es st.last lev⟩]) st.lv=true):d8 st lev l=.ok { st with es:=st.es++[⟨l,gk st.es st.last lev⟩],last:=gk st.es st.last lev }:=by
 unfold d8;rw[if_neg (by simp[h]),if_neg c,if_neg (by simp[h2]),if_neg a,if_pos b]
theorem ae1 {u:World} {B b:Nat} {v:Value} {l:List Int}(h:ab u B v l) (a:b+1<=B):v.ownBlock=none\/v.ownBlock≠some b:=by
 cases e:v.ownBlock with
 | none=>exact .inl rfl
 | some g =>
  refine .inr fun c=>?_
  have:=(World.ownsRow.lt h g e).1
  cases c
  omega
theorem al8 {w u:World} {b T n:Nat} {l:List UInt8} {st:RS} {vE:Value}(h:RdM w u b T l st vE) (hi:gj st) (hn:n=1\/n=2\/n=3) :
  Calls prog 169 #[vE,.agg #[.int .i64 st.last.first,.int .i64 st.last.second,.int .i64 st.last.third,.bool st.last.varies],.int .i64 (n:Int)] u fun x u'=>x=.returned (elV (gk st.es st.last n))/\Below u.heap.size u u'/\(u'.cell? ⟨b,4,none⟩=some (.int .i64 st.last.first)/\u'.cell? ⟨b,5,none⟩=some (.int .i64 st.last.second)/\u'.cell? ⟨b,6,none⟩=some (.int .i64 st.last.third)/\u'.cell? ⟨b,7,none⟩=some (.bool st.last.varies))/\∀ j,u'.frozen? ⟨b,j,none⟩=false :=
 (Q5 h.en.ents hi hn h.tab.1).mono fun _ _ ⟨h1,h2⟩=>by
  obtain⟨_,_,_,_,a,c,d,e,_,f⟩:=(h.step h2).cells;exact⟨h1,h2,⟨a,c,d,e⟩,f⟩
theorem G4 {w u:World} {b T lev:Nat} {l:List UInt8} {st:RS} {vE:Value}(h:RdM w u b T l st vE) (hl:l.length<=1048576) (hi:gj st) (ac:lev=1\/lev=2\/lev=3) :
  Calls prog 145 #[.pointer (some ⟨b,0,none⟩),.int .i64 (lev:Int)] u fun e u'=>∃ c,e=.returned (.int .i64 c)/\Out w u' b (wdR l) (nc st lev (wdB l)) c:=by
 have S:=vt h hl;have hx:(wdB l).size<=1048576:=Nat.le_trans (Pp l).1 hl;have HI:=hZ hi;have aa:=hi.len;have a5:lev≠0:=by omega
 have HN:Hid (jOk (wdB l)=false->nc st lev (wdB l)=.error 2):=fun c=>J4 c
 have HY:Hid (jOk (wdB l)=true->nc st lev (wdB l)=d8 st lev (jR (wdB l))/\bd (jR (wdB l))=true):=fun c=>by
  have e:jR (wdB l)=nD (Dec.decT (wdB l).size (wdB l)).1:=by unfold jR;rw[if_pos c]
  rw[e];refine⟨Oj c,?_⟩;unfold jOk at c;rw[Bool.and_eq_true]at c;exact c.2
 clear h hi;generalize nc st lev (wdB l)=R at *;generalize wdR l=l2 at *;have Q:=fun (u:World) (ht:dr u)=>Er (wdB l) hx u ht
 generalize jR (wdB l)=r at *;generalize hj:jOk (wdB l)=jo at *;generalize wdB l=x at *;clear hj
 cases jo
 .have I:Hid (R=.error 2):=HN.out rfl
  clear HN HY;go_enter func145,ntmps145;go_wp2_with fail;refine S.mono ?_;rintro e u1 ⟨rfl,v⟩;clear S;have K:=Q _ v.tab;have J:Hid _:=v;clear Q v;go_wp2_with fail;refine K.mono ?_;rintro e u2 ⟨v2,rfl,Y,U⟩;have N:Hid (Below _ _ _):=(J.out.step U).be;clear K J;go_wp2;go_ret;exact⟨2,rfl,.inl ⟨I.out,by decide,N.out⟩⟩
 .obtain⟨X,M⟩:=HY.out rfl
  have ar:=eg M;clear HN HY
  cases hre:st.reset
  .have I:=hZ (X.trans (Lf M a5 hre))
   clear X M;go_enter func145,ntmps145;go_wp2_with fail;refine S.mono ?_;rintro e u1 ⟨rfl,v⟩;clear S;have K:=Q _ v.tab;have J:Hid _:=v;clear Q v;go_wp2_with fail;refine K.mono ?_;rintro e u2 ⟨v2,rfl,Y,U⟩;have H:=J.out.step U;obtain⟨A,n,g,i,p,q,s,t,f,B⟩:=H.cells;rw[hre]at f;have N:Hid _:=H.be;clear K J H;go_wp2;go_ret;exact⟨3,rfl,.inl ⟨I.out,by decide,N.out⟩⟩
  .go_enter func145,ntmps145
   go_wp2_with fail;refine S.mono ?_;rintro e u1 ⟨rfl,ak⟩;clear S;have v:=ak.up;have K:=Q _ v.tab;have J:Hid _:=v;clear Q v ak;go_wp2_with fail;refine K.mono ?_;rintro e u2 ⟨v2,rfl,Y,U⟩;obtain⟨D,G,F,rfl⟩:∃ a m c,v2=.slice a m c:=by
    rcases Y.form with ⟨rfl,_⟩|⟨_,_,rfl,_,_⟩
    .exact⟨_,_,_,rfl⟩
    .exact⟨_,_,_,rfl⟩
   have H:=J.out.step U;have E:=Ca H.en.ents Y aa.1 (by omega) aa.2;obtain⟨A,n,g,i,p,q,s,t,f,B⟩:=H.cells;rw[hre]at f;have az:=H.lt;have ai:=J.out.lt;have a2:Hid _:=H;have I2:Hid (ab _ _ _ _):=Y;clear K J H Y U
   cases ho:dj st.es r with
   | some x1 =>
    rw[ho]at E;have h0:0<=atE st.es r:=by
     have:=Aj (es:=st.es) (l:=r);rw[ho]at this;exact of_decide_eq_true this.symm
    have I:=hZ (X.trans (W6 M a5 hre h0));unfold fo ph elV at E;simp only[Option.getD_some,Option.isSome_some]at E;clear X ho M h0;go_wp2_with fail;refine E.mono ?_;rintro e u3 ⟨rfl,V⟩;have N:Hid (Below _ _ _):=(a2.out.step V).be;have aA:=V.size;clear E a2 A n g i p q s t f B I2;go_wp2;go_ret;exact⟨4,rfl,.inl ⟨I.out,by decide,N.out.alloc (by omega) _⟩⟩
   | none =>
    rw[ho]at E;have h0:¬ 0<=atE st.es r:=by rw[yu ho];omega
    unfold fo ph elV at E;simp only[Option.getD_none,Option.isSome_none]at E;clear ho;go_wp2_with fail;refine E.mono ?_;rintro e u3 ⟨rfl,V⟩;have L:=(Below.refl u3.heap.size u3).alloc bR (.cells #[.int .i64 0,.int .i64 0,.int .i64 0,.bool false] 111);have Z:Hid (RdM _ _ _ _ _ _ _):=(a2.out.step V).step L;have I4:Hid (ab _ _ _ _):=(I2.out.below V).below L;clear E a2 A n g i p q s t f B I2 V L;have BH:=fun (u:World) (hb:Below (u3.alloc (.cells #[.int .i64 0,.int .i64 0,.int .i64 0,.bool false] 111)).heap.size (u3.alloc (.cells #[.int .i64 0,.int .i64 0,.int .i64 0,.bool false] 111)) u)=>al8 (Z.out.step hb) HI.out ac
    obtain⟨d,a4⟩:∃ d,Hid (gk st.es st.last lev=d):=⟨_,rfl⟩
    rw[a4.out]at BH;unfold elV at BH;obtain⟨A,n,g,i,p,q,s,t,f,B⟩:=Z.out.cells;rw[hre]at f;have ad:=Z.out.lt;have KP:Hid (∀ u5 u6,Below (u3.alloc (.cells #[.int .i64 0,.int .i64 0,.int .i64 0,.bool false] 111)).heap.size (u3.alloc (.cells #[.int .i64 0,.int .i64 0,.int .i64 0,.bool false] 111)) u5->Below u5.heap.size u5 u6->RdM w (ym u6 b d) b u1.heap.size l2 { st with last:=d } vE/\ab (ym u6 b d) u1.heap.size (.slice D G F) r):=fun u5 u6 W h6 =>
     ⟨((Z.out.step W).step h6).setLast d,World.ownsRow.kept ((I4.out.below W).below h6) (Rr u6 b d) (ae1 ((I4.out.below W).below h6) ai)⟩
    go_upto_region 9 with fail
    go_cut [5] from 33 to 46 (fun s5 wx=>s5=.slice D G F/\RdM w wx b u1.heap.size l2 { st with last:=d } vE/\ab wx u1.heap.size (.slice D G F) r)
    case first =>
     go_region_with (go_at_call 169;refine (BH _ (by repeat (first|exact bX|refine Below.drew ?_))).mono ?_;rintro e u6 ⟨rfl,b6,⟨k4,k5,k6,k7⟩,kf⟩)
     all_goals
      have hK:=KP.out _ _ (by repeat (first|exact bX|refine Below.drew ?_)) b6;go_wp2_with fail;go_meet
      case rel=>exact⟨rfl,hK⟩
    case rest =>
     obtain⟨rfl,a1,ah⟩:=hcut;clear BH KP A n g i p q s t f B Z I4 ad;obtain⟨xs,am,h1,h2,h3,h4,W⟩:=a1.en;obtain⟨A,n,g,i,p,q,s,t,f,B⟩:=a1.cells;simp only at g i p q s t f;rw[hre]at f;have a0:=a1.lt;have ap:=(cg HI.out.good).1;have a6:Hid _:=a1;have af:Hid (ab _ _ _ _):=ah;have H2:Hid _:=h2;have H3:Hid _:=h3;have H5:Hid _:=W;have KG:Hid (∀ u9:World,(wc.alloc (.cells #[.slice D G F,.int .i64 d.first,.int .i64 d.second,.int .i64 d.third,.bool d.varies] 117)).grownBy u9 vE.ownBlock->u9.cell? ⟨b,1,none⟩=some vE/\∀ j,u9.frozen? ⟨b,j,none⟩=false):=fun u9 hg=>by
      have aj:u9.heap[b]? = some (.cells (rdC l2 vE { st with last:=d }) 184):=by
       rw[hg.block b (by simp;omega) (fun c=>by have:=(World.ownsRow.lt h1 b c.symm).1;omega),Below.heap_alloc _ _ _ a0];exact a6.out.blk
      exact⟨cell_of_row _ _ 1 _ _ _ aj,fun j=>by simp[World.frozen?,aj]⟩
     obtain⟨it,ao,ax,au,av⟩:=info_parts Ar;clear a1 ah h2 h3 h4 W HI;have a8:∀ u:World,u.heap=(wc.alloc (.cells #[.slice D G F,.int .i64 d.first,.int .i64 d.second,.int .i64 d.third,.bool d.varies] 117)).heap->u.ownsRow (b+1) 117 5 vE st.es.length (eu xs st.es):=fun u hu=>by
      have:=h1.alloc (o:=(.cells #[.slice D G F,.int .i64 d.first,.int .i64 d.second,.int .i64 d.third,.bool d.varies] 117));unfold World.ownsRow at this ⊢;rw[hu];exact this
     have ag:Hid (∀ (uA u9:World) (C y:Nat),uA=wc.alloc (.cells #[.slice D G F,.int .i64 d.first,.int .i64 d.second,.int .i64 d.third,.bool d.varies] 117)->uA.grownBy u9 vE.ownBlock->u9.ownsRow (b+1) 117 5 (.slice (some ⟨C,0,none⟩) (st.es.length+1) y) (st.es.length+1) (eu xs st.es++gm (.slice D G F) d)->RdM w (u9.setCell ⟨b,1,none⟩ (.slice (some ⟨C,0,none⟩) (st.es.length+1) y)) b u9.heap.size l2 { st with es:=st.es++[⟨r,d⟩],last:=d } (.slice (some ⟨C,0,none⟩) (st.es.length+1) y)):=fun uA u9 C y hA hg ho=>by
      subst hA;have L:=(Below.refl wc.heap.size wc).alloc bR (.cells #[.slice D G F,.int .i64 d.first,.int .i64 d.second,.int .i64 d.third,.bool d.varies] 117);exact RdM.put (st:={ st with last:=d }) (a6.out.step L) am (a8 _ rfl) (fun k e he=>by obtain⟨z,hz,aw⟩:=H2.out k e he;exact⟨z,hz,aw.below L⟩) H3.out H5.out (af.out.below L) bR ai hg ho
     go_upto_region 10 with fail
     go_cut [5] from 47 to 63 (fun _ wx=>∃ C y T9,RdM w wx b T9 l2 { st with es:=st.es++[⟨r,d⟩],last:=d } (.slice (some ⟨C,0,none⟩) (st.es.length+1) y))
     case first =>
      go_region_law (refine step_append_lies _ rfl (.tmp 52) (.tmp 59) 54 rfl (b+1) 117 it _ 5 56 underlying54 ao ax au av rfl (by decide) _ _ _ (by simp[Act.eval]) (a8 _ rfl) ⟨wc.heap.size,0,none⟩ 1 1 (gm (.slice D G F) d) (by simp[Act.eval]) rfl (H6 _ _ _ _) (fun z hz=>by simp[gm]at hz;rcases hz with rfl|rfl|rfl|rfl|rfl <;> rfl) (by omega) (by unfold maxLen;omega) (by omega) (by simp;omega) (wc.heap.size+1) (by simp) ?_;intro C y w9 aq a9 an ae;have k1:=(KG.out w9 (rh a9)).1;have kf:=(KG.out w9 (rh a9)).2)
      all_goals
       have hK:=ag.out _ _ C y rfl (rh a9) aq;go_wp2_with fail;go_meet
       case rel=>exact⟨C,y,_,hK⟩
     case rest =>
      obtain⟨C,y,T9,O⟩:=hcut;have al:∀ e ∈ st.es++[⟨r,d⟩],e.runes.length<=1048576:=fun e he=>by
       rcases List.mem_append.1 he with h|h
       .exact aa.2 e h
       .simp at h;subst h;exact Nat.le_trans ar (by omega)
      have P:=ut (sh:=st.sh) (lv:=st.lv) O.en.ents al O.tab;clear ag KG a6 af H2 H3 H5 h1 a8 al A n g i p q s t f B a0 am;obtain⟨A,n,g,i,p,q,s,t,f,B⟩:=O.cells;simp only at n g i;have a3:Hid _:=O;have ae:=O.lt;clear O
      cases hg:ay (st.es++[⟨r,d⟩]) st.lv
      .have I:Hid (R=.error 5):=X.trans (Wa M a5 hre (by omega) (by rw[a4.out];exact hg))
       rw[hg]at P;go_wp2_with fail;refine P.mono ?_;rintro e u10 ⟨rfl,a7⟩;have N:Hid (Below _ _ _):=(a3.out.step a7).be;clear P a3 A n g i p q s t f B;go_wp2;go_ret;exact⟨5,rfl,.inl ⟨I.out,by decide,N.out⟩⟩
      .have I:Hid (R=.ok { st with es:=st.es++[⟨r,d⟩],last:=d }):=by
        show _=_
        rw[<- a4.out];exact X.trans (af0 M a5 hre (by omega) (by rw[a4.out];exact hg))
       rw[hg]at P;go_wp2_with fail;refine P.mono ?_;rintro e u10 ⟨rfl,a7⟩;have HS:Hid _:=a3.out.step a7;clear P a3 A n g i p q s t f B;go_wp2;go_ret;exact⟨0,rfl,.inr ⟨_,_,_,I.out,rfl,HS.out⟩⟩
def mv (b:Nat) (u:World):Nat:=match u.cell? ⟨b,0,none⟩ with
 | some (.string s)=>s.size
 | _=>0
theorem Kf {w u:World} {b T:Nat} {l:List UInt8} {st:RS} {vE:Value}(h:RdM w u b T l st vE):mv b u=l.length:=by
 unfold mv;rw[h.cells.1];simp[ByteArray.size]
theorem ax0 {l:List UInt8}(h:(dn l).1≠[]):(wdR l).length<l.length:=by
 unfold wdR;induction l with
 | nil=>exact absurd rfl h
 | cons x l ih =>
  by_cases a:x=32
  .have e:dn (x::l)=dn l:=by simp[dn,a]
   rw[e]at h ⊢;have:=ih h;simp only[List.length_cons];omega
  .have e:(dn (x::l)).2=(l.dropWhile (· != 32)).drop 1:=by simp[dn,a]
   rw[e];have:=(List.dropWhile_sublist (l:=l) (fun y=>y != 32)).length_le;simp only[List.length_drop,List.length_cons];omega
def RdJ (w:World) (b:Nat) (R:Except Int RS) (u:World):Prop:=∃ l T st vE,RdM w u b T l st vE/\gj st/\l.length<=1048576/\bf (wf l []) st=R
def Dj (w:World) (b:Nat) (R:Except Int RS) (c:Int) (u:World):Prop:=∃ l,Out w u b l R c
theorem Ln {P:Program} {a:Act} {w:World} {Q:Exit->Act->World->Prop} {f rest:Code}(l:Nat) (J:Act->World->Prop) (μ:Act->World->Nat) (h:findLabel (f.seq ((Code.label l).seq rest)) l=some (Code.skip.seq rest))
  (first:f.wp P (fun e a w=>e=.normal/\J a w) a w)
  (g:∀ a w,J a w->rest.wp P (Exit.jump l (fun c w'=>J c w'/\μ c w'<μ a w) Q) a w):(Code.scope (f.seq ((Code.label l).seq rest))).wp P Q a w:=by
 refine wp_scope_jumps l J μ h ?_ (fun a w d=>wp_seq (wp_skip (show Code.wp P rest _ a w from g a w d)));refine wp_seq (wp_mono first ?_);rintro e a w ⟨rfl,d⟩;show ((Code.label l).seq rest).wp P (Exit.jump l J Q) a w
 refine wp_seq (wp_label ?_);show rest.wp P (Exit.jump l J Q) a w
 refine wp_mono (g a w d) ?_;intro e c w' b
 cases e with
 | goto l'=>exact⟨b.1,b.2.1⟩
 | normal=>exact b
 | exit _=>exact b
 | ret=>exact b
 | panic _=>exact b
 | outgrown=>exact b
theorem T4 {w u u':World} {b T c:Nat} {l l':List UInt8} {st st':RS} {vE vE':Value} {R:Except Int RS}(f:RdM w u b T l st vE) (a:RdM w u' b c l' st' vE') (hi:gj st') (d:l'.length<l.length) (g:l.length<=1048576) (e:bf (wf l' []) st'=R):RdJ w b R u'/\mv b u'<mv b u :=
 ⟨⟨l',c,st',vE',a,hi,by omega,e⟩,by rw[Kf f,Kf a];exact d⟩
theorem Zu (x:ByteArray):ma x=if (x.toList == [38])=true then some 0 else if (x.toList == [60])=true then some 1 else if (x.toList == [60,60])=true then some 2 else if (x.toList == [60,60,60])=true then some 3 else none:=rfl
theorem xy {x:ByteArray} {l:List UInt8}(h:(x.toList == l)=true):x.size=l.length:=by
 have e:=beq_iff_eq.1 h;rw[ByteArray.toList_eq]at e;rw[<- e,Array.length_toList];rfl
def aa4 (r:Except Int RS) (l:List UInt8):Except Int RS:=match r with
 | .error c=>.error c
 | .ok st'=>bf (wf l []) st'
theorem Pi {w u u':World} {b T:Nat} {l l':List UInt8} {st:RS} {vE:Value} {R r:Except Int RS} {c:Int}(k:RdM w u b T l st vE) (i:l'.length<l.length) (j:l.length<=1048576) (g:∀ st',r=.ok st'->gj st')
  (e:R=aa4 r l') (h:Out w u' b l' r c):(c≠0/\Dj w b R c u')\/(c=0/\RdJ w b R u'/\mv b u'<mv b u):=by
 rcases h with ⟨a,d,f⟩|⟨st',n,m,a,d,f⟩
 .rw[a]at e
  exact .inl ⟨d,l',.inl ⟨e,d,f⟩⟩
 .rw[a]at e
  exact .inr ⟨d,T4 k f (g st' a) i j e.symm⟩
theorem a18 {w u:World} {b T:Nat} {l:List UInt8} {st:RS} {vE:Value}(h:RdM w u b T l st vE) (D:l.length<=1048576) (hi:gj st) :
  Calls prog 119 #[.pointer (some ⟨b,0,none⟩)] u fun e u'=>∃ c,e=.returned (.int .i64 c)/\Dj w b (bf (wf l []) st) c u':=by
 obtain⟨R,o⟩:∃ R,Hid (bf (wf l []) st=R):=⟨_,rfl⟩
 rw[o.out];have U:Hid (RdJ w b R u):=⟨l,T,st,vE,h,hi,D,o.out⟩;clear h D hi o;go_enter func119,ntmps119;go_wp2;refine Ln 0 (fun a' u'=>RdJ w b R u'/\∃ (u4 u5 u6 u7 u8 u9 u10 u11 u12 u13 u14 u15 u16 u17 u18 u19 u20 u21 u22 u23 u24 u25 u26 u27 u28 u29 u30 u31 u32 u33 u34 u35:Value),a'={ tmps:=#[.pointer (some ⟨b,0,none⟩),undef,.int .i64 0,.int .i64 0,u4,u5,u6,u7,u8,u9,u10,u11,u12,u13,u14,u15,u16,u17,u18,u19,u20,u21,u22,u23,u24,u25,u26,u27,u28,u29,u30,u31,u32,u33,u34,u35],defers:=[] }) (fun _ u'=>mv b u') rfl ?_ ?_
 .go_wp2
  exact U.out
 .clear U
  rintro a u0 ⟨⟨l,T,st,vE,N,hi,D,V⟩,u4,u5,u6,u7,u8,u9,u10,u11,u12,u13,u14,u15,u16,u17,u18,u19,u20,u21,u22,u23,u24,u25,u26,u27,u28,u29,u30,u31,u32,u33,u34,u35,rfl⟩;have k:=vt N D;have B:Hid _:=N;have r:=hZ hi;have o:=hZ V;clear N hi V;by_cases q:(dn l).1=[]
  .have e0:((wdB l).toList == [])=true:=by unfold wdB;rw[q,ByteArray.toList_eq];rfl
   have e1:(wdB l).toList.isEmpty=true:=by unfold wdB;rw[q,ByteArray.toList_eq];rfl
   have S:Hid (∀ u1,RdM w u1 b T (wdR l) st vE->Dj w b R 0 u1):=fun u1 h1=>⟨_,.inr ⟨st,T,vE,by rw[<- o.out,a19 q],rfl,h1⟩⟩
   generalize wdB l=x at *;clear q o r B;go_wp2_with fail;refine k.mono ?_;rintro e u1 ⟨rfl,d⟩;have p:=S.out _ d;clear k S d;go_wp2;simp only[Exit.jump];go_ret;exact⟨0,rfl,p⟩
  .have K:∃ y ys,(dn l).1=y::ys:=by
    cases c:(dn l).1 with
    | nil=>exact absurd c q
    | cons y ys=>exact⟨y,ys,rfl⟩
   have z0:((wdB l).toList == [])=false:=by
    obtain⟨y,ys,h⟩:=K;unfold wdB;rw[h,ByteArray.toList_eq];simp
   have z1:(wdB l).toList.isEmpty=false:=by
    obtain⟨y,ys,h⟩:=K;unfold wdB;rw[h,ByteArray.toList_eq];simp
   clear K;have P:=ax0 q;have F:(wdR l).length<=1048576:=by omega
   have Q:(wdR (wdR l)).length<l.length:=Nat.lt_of_le_of_lt (Pp (wdR l)).2 P;by_cases M:((wdB l).toList == [91,115,104,105,102,116,101,100,93])=true
   .have f:Hid (∀ u1,RdM w u1 b T (wdR l) { st with sh:=true } vE->RdJ w b R u1/\mv b u1<mv b u0):=fun u1 h1=>T4 B.out h1 (a43 r.out) P D (by rw[<- o.out,Rm q M])
    generalize wdB l=x at *;clear q o r B;go_wp2_with fail;refine k.mono ?_;rintro e u1 ⟨rfl,d⟩;have j:=f.out _ (d.set (i:=2) (x:=.bool true) (l':=wdR l) (st':={ st with sh:=true }) (vE':=vE) rfl rfl rfl);obtain⟨_,_,c2,_,_,_,_,_,_,fz⟩:=d.cells;have a1:=d.lt;clear k f d;go_wp2;go_step3
    exact⟨rfl,⟨j.1,_,_,_,_,_,_,_,_,_,_,_,_,_,_,_,_,_,_,_,_,_,_,_,_,_,_,_,_,_,_,_,_,rfl⟩,j.2⟩
   .have J:((wdB l).toList == [91,115,104,105,102,116,101,100,93])=false:=by simpa using M
    by_cases L:((wdB l).toList == [91,108,101,118,101,108,115])=true
    .have f:Hid (∀ u2 c,Out w u2 b (wdR (wdR l)) (si st (wdB (wdR l))) c->(c≠0/\Dj w b R c u2)\/(c=0/\RdJ w b R u2/\mv b u2<mv b u0)):=fun u2 c h2=>Pi B.out Q D (fun st' h=>ac5 r.out h) (by rw[<- o.out,Om q J L];unfold aa4;cases si st (wdB (wdR l)) <;> rfl) h2
     generalize wdB l=x at *;clear q o r B;go_wp2_with fail;refine k.mono ?_;rintro e u1 ⟨rfl,d⟩;have m:=Vs d F;clear k d;go_wp2_with fail;refine m.mono ?_;rintro e u2 ⟨c,rfl,g⟩;clear m;rcases f.out _ _ g with ⟨n,p⟩|⟨rfl,j⟩
     .have I:(c == 0)=false:=by simpa using n
      clear f g n;go_wp2;simp only[Exit.jump];go_ret;exact⟨c,rfl,p⟩
     .clear f g
      go_wp2;go_step3
      exact⟨rfl,⟨j.1,_,_,_,_,_,_,_,_,_,_,_,_,_,_,_,_,_,_,_,_,_,_,_,_,_,_,_,_,_,_,_,_,rfl⟩,j.2⟩
    .have O:((wdB l).toList == [91,108,101,118,101,108,115])=false:=by simpa using L
     have z:Hid (∀ lev,ma (wdB l)=some lev->∀ u2 c,Out w u2 b (wdR (wdR l)) (nc st lev (wdB (wdR l))) c->(c≠0/\Dj w b R c u2)\/(c=0/\RdJ w b R u2/\mv b u2<mv b u0)):=fun lev hx u2 c h2=>Pi B.out Q D (fun st' h=>af1 r.out h) (by rw[<- o.out,af4 q J O hx];unfold aa4;cases nc st lev (wdB (wdR l)) <;> rfl) h2
     have E:Hid (ma (wdB l)=none->R=.error 2):=fun hx=>by rw[<- o.out,a21 q J O hx]
     have t:Hid (ma (wdB l)=if ((wdB l).toList == [38])=true then some 0 else if ((wdB l).toList == [60])=true then some 1 else if ((wdB l).toList == [60,60])=true then some 2 else if ((wdB l).toList == [60,60,60])=true then some 3 else none):=Zu (wdB l);generalize wdB l=x at *;clear q o B M L;by_cases s:(x.toList == [38])=true
     .have f:Hid _:=z.out 0 (t.out.trans (by rw[if_pos s]))
      clear z E t;go_wp2_with fail;refine k.mono ?_;rintro e u1 ⟨rfl,d⟩;have m:=a26 d F r.out;clear k d;go_wp2_with fail;refine m.mono ?_;rintro e u2 ⟨c,rfl,g⟩;clear m;rcases f.out _ _ g with ⟨n,p⟩|⟨rfl,j⟩
      .have I:(c == 0)=false:=by simpa using n
       clear f g n;go_wp2;simp only[Exit.jump];go_ret;exact⟨c,rfl,p⟩
      .clear f g
       go_wp2;go_step3
       exact⟨rfl,⟨j.1,_,_,_,_,_,_,_,_,_,_,_,_,_,_,_,_,_,_,_,_,_,_,_,_,_,_,_,_,_,_,_,_,rfl⟩,j.2⟩
     .have X:(x.toList == [38])=false:=by simpa using s
      by_cases v:(x.toList == [60])=true
      .have A:x.size=1:=xy v
       have f:Hid _:=z.out x.size (by rw[A];exact t.out.trans (by rw[if_neg s,if_pos v]));have G:x.size=1\/x.size=2\/x.size=3:=by omega
       clear z E t A s;go_wp2_with fail;refine k.mono ?_;rintro e u1 ⟨rfl,d⟩;have m:=G4 d F r.out G;clear k d;go_wp2_with fail;refine m.mono ?_;rintro e u2 ⟨c,rfl,g⟩;clear m;rcases f.out _ _ g with ⟨n,p⟩|⟨rfl,j⟩
       .have I:(c == 0)=false:=by simpa using n
        clear f g n;go_wp2;simp only[Exit.jump];go_ret;exact⟨c,rfl,p⟩
       .clear f g
        go_wp2;go_step3
        exact⟨rfl,⟨j.1,_,_,_,_,_,_,_,_,_,_,_,_,_,_,_,_,_,_,_,_,_,_,_,_,_,_,_,_,_,_,_,_,rfl⟩,j.2⟩
      .have Y:(x.toList == [60])=false:=by simpa using v
       by_cases C:(x.toList == [60,60])=true
       .have A:x.size=2:=xy C
        have f:Hid _:=z.out x.size (by rw[A];exact t.out.trans (by rw[if_neg s,if_neg v,if_pos C]));have G:x.size=1\/x.size=2\/x.size=3:=by omega
        clear z E t A s v;go_wp2_with fail;refine k.mono ?_;rintro e u1 ⟨rfl,d⟩;have m:=G4 d F r.out G;clear k d;go_wp2_with fail;refine m.mono ?_;rintro e u2 ⟨c,rfl,g⟩;clear m;rcases f.out _ _ g with ⟨n,p⟩|⟨rfl,j⟩
        .have I:(c == 0)=false:=by simpa using n
         clear f g n;go_wp2;simp only[Exit.jump];go_ret;exact⟨c,rfl,p⟩
        .clear f g
         go_wp2;go_step3
         exact⟨rfl,⟨j.1,_,_,_,_,_,_,_,_,_,_,_,_,_,_,_,_,_,_,_,_,_,_,_,_,_,_,_,_,_,_,_,_,rfl⟩,j.2⟩
       .have Z:(x.toList == [60,60])=false:=by simpa using C
        by_cases H:(x.toList == [60,60,60])=true
        .have A:x.size=3:=xy H
         have f:Hid _:=z.out x.size (by rw[A];exact t.out.trans (by rw[if_neg s,if_neg v,if_neg C,if_pos H]));have G:x.size=1\/x.size=2\/x.size=3:=by omega
         clear z E t A s v C;go_wp2_with fail;refine k.mono ?_;rintro e u1 ⟨rfl,d⟩;have m:=G4 d F r.out G;clear k d;go_wp2_with fail;refine m.mono ?_;rintro e u2 ⟨c,rfl,g⟩;clear m;rcases f.out _ _ g with ⟨n,p⟩|⟨rfl,j⟩
         .have I:(c == 0)=false:=by simpa using n
          clear f g n;go_wp2;simp only[Exit.jump];go_ret;exact⟨c,rfl,p⟩
         .clear f g
          go_wp2;go_step3
          exact⟨rfl,⟨j.1,_,_,_,_,_,_,_,_,_,_,_,_,_,_,_,_,_,_,_,_,_,_,_,_,_,_,_,_,_,_,_,_,rfl⟩,j.2⟩
        .have a0:(x.toList == [60,60,60])=false:=by simpa using H
         have W:Hid (R=.error 2):=E.out (t.out.trans (by rw[if_neg s,if_neg v,if_neg C,if_neg H]));clear z E t s v C H r;go_wp2_with fail;refine k.mono ?_;rintro e u1 ⟨rfl,d⟩;have p:Dj w b R 2 u1:=⟨[],.inl ⟨W.out,by decide,d.be⟩⟩;clear k d;go_wp2;simp only[Exit.jump];go_ret;exact⟨2,rfl,p⟩
theorem L8 (w:World):Calls prog 118 #[] w fun e w'=>e=.returned (.agg #[.slice none 0 0,.bool false,.int .i64 3])/\Below w.heap.size w w':=by
 go_enter func118,ntmps118;go_wp2;refine bodyPost_ret (v:=.agg #[.slice none 0 0,.bool false,.int .i64 3]) ?_ rfl ⟨rfl,bY _⟩;exact results_cell_row rfl _ _ w.heap.size 56 _ (0,0) _ rfl (heap_alloc_new _ _) underlying56 rfl (by kernel_rfl)
def Zru (u:World) (b:Nat):Prop:=u.heap[b]? = some (.cells #[.slice none 0 0,.bool false,.int .i64 0] 56)
theorem Zru.facts {u:World} {b:Nat}(h:Zru u b):b<u.heap.size/\(u.cell? ⟨b,0,none⟩=some (.slice none 0 0)/\u.cell? ⟨b,1,none⟩=some (.bool false)/\u.cell? ⟨b,2,none⟩=some (.int .i64 0))/\∀ j,u.frozen? ⟨b,j,none⟩=false :=
 ⟨(Array.getElem?_eq_some_iff.1 h).1,⟨cell_of_row _ _ 0 _ _ _ h,cell_of_row _ _ 1 _ _ _ h,cell_of_row _ _ 2 _ _ _ h⟩,fun j=>by simp[World.frozen?,show u.heap[b]? = _ from h]⟩
theorem Zru.below {u u':World} {b B:Nat}(h:Zru u b) (c:Below B u u') (a:b<B):Zru u' b:=(c.block _ a).trans h
theorem Ec {w wr:World}(h:Below w.heap.size w wr) (x y z:Value):Below w.heap.size w (((wr.setCell ⟨w.heap.size,0,none⟩ x).setCell ⟨w.heap.size,1,none⟩ y).setCell ⟨w.heap.size,2,none⟩ z) :=
 ((h.setCell bR _).setCell bR _).setCell bR _
theorem Wo (u:World) (b:Nat) (x y z:Value):u.grownBy (((u.setCell ⟨b,0,none⟩ x).setCell ⟨b,1,none⟩ y).setCell ⟨b,2,none⟩ z) (some b) :=
 ((au u b 0 _).trans (au _ b 1 _)).trans (au _ b 2 _)
theorem jh.low {u:World} {B f T:Nat} {v:Value} {es:List Ent}(h:jh u f T v es) (r:B<=f):jh u B T v es:=by
 obtain⟨y,t,l,m,n,o,p⟩:=h;refine⟨y,t,?_,fun k e he=>?_,n,o,p⟩
 .obtain⟨q,d⟩:=l
  refine⟨q,?_⟩;rcases d with d|⟨g,i,j,a,b,c⟩
  .exact .inl d
  .exact .inr ⟨g,i,j,a,by omega,c⟩
 .obtain⟨x,w,s⟩:=m k e he
  exact⟨x,w,fe s r⟩
theorem Ng (s:ByteArray) (u:World) (ht:dr u) (S:s.size<=1048576) :
  Calls prog 84 #[.string s] u fun e w'=>∃ v,e=.returned (.tuple #[.agg #[v,.bool (aa s).sh,.int .i64 (aa s).lv],.int .i64 (aa s).code])/\jh w' u.heap.size w'.heap.size v (aa s).es/\Below u.heap.size u w':=by
 have n:Zru (u.alloc (.cells #[.slice none 0 0,.bool false,.int .i64 0] 56)) u.heap.size:=heap_alloc_new _ _;have o:=(Below.refl u.heap.size u).alloc bR (.cells #[.slice none 0 0,.bool false,.int .i64 0] 56);by_cases m:300<s.size
 .have O:(300:Int)<(s.size:Int):=by omega
  have b:Hid (aa s=⟨[],false,0,1⟩):=if_pos m;obtain⟨F,⟨L,q1,q2⟩,J⟩:=n.facts;clear n ht m;go_enter func84,ntmps84;go_wp2;refine bodyPost_ret (v:=.tuple #[.agg #[.slice none 0 0,.bool false,.int .i64 0],.int .i64 1]) ?_ rfl ⟨.slice none 0 0,by rw[b.out],by rw[b.out];exact jh.nil _ _ _,o⟩;rw[results_cell_tmp rfl];go_simp
 .have O:¬ (300:Int)<(s.size:Int):=by omega
  have b:Hid (aa s=Wc (bf (wf s.data.toList []) rs0)):=by show _=_;unfold aa;rw[if_neg m,aj0]
  have G:s.data.toList.length<=1048576:=by rw[Array.length_toList];exact S
  have P:=fun w=>L8 w
  have i:=hZ ht;have t:Hid (Zru _ _):=n;have r:Hid _:=o;clear ht n o m;go_enter func84,ntmps84;go_wp2_with fail;refine (P _).mono ?_;rintro e u1 ⟨rfl,A⟩;have q:=t.out.below A (t.out.facts).1;have f:=r.out.trans (A.mono r.out.size);have M:=i.out.below f;have H:u.heap.size<u1.heap.size:=(q.facts).1;have l:Below u1.heap.size u1 (u1.alloc (.cells #[.string s,.slice none 0 0,.bool false,.int .i64 3,.int .i64 0,.int .i64 0,.int .i64 0,.bool false,.bool false] 184)):=(Below.refl u1.heap.size u1).alloc bR _;have a:RdM u1 (u1.alloc (.cells #[.string s,.slice none 0 0,.bool false,.int .i64 3,.int .i64 0,.int .i64 0,.int .i64 0,.bool false,.bool false] 184)) u1.heap.size u1.heap.size s.data.toList rs0 (.slice none 0 0):=by
   refine⟨?_,jh.nil _ _ _,l.size,l,M.below l,⟨Nat.lt_of_lt_of_le i.out.1.lt f.size,Nat.lt_of_lt_of_le i.out.2.1.lt f.size,Nat.lt_of_lt_of_le i.out.2.2.lt f.size⟩⟩;rw[heap_alloc_new u1];unfold rdC rs0;have Q:(⟨s.data.toList.toArray⟩:ByteArray)=s:=by simp
   rw[Q]
  have I:=a18 a G Wr;have k:Hid (Zru _ _):=q;have d:Hid _:=f;clear P i t r q f M l a A G;go_wp2_with fail;refine I.mono ?_;rintro e u2 ⟨c,rfl,l2,R⟩;clear I;rcases R with ⟨j,K,p⟩|⟨g,T,vE,j,rfl,a⟩
  .have h:Hid (aa s=⟨[],false,0,c⟩):=b.out.trans (by rw[j];rfl)
   have U:(c != 0)=true:=by simpa using K
   obtain⟨F,⟨L,q1,q2⟩,J⟩:=(k.out.below p H).facts;have B:=d.out.trans (p.mono d.out.size);clear b j K p k d;go_wp2;refine bodyPost_ret (v:=.tuple #[.agg #[.slice none 0 0,.bool false,.int .i64 0],.int .i64 c]) ?_ rfl ⟨.slice none 0 0,by rw[h.out],by rw[h.out];exact jh.nil _ _ _,Ec B _ _ _⟩;rw[results_cell_tmp rfl];go_simp
  .obtain⟨C,E,D,rfl⟩:=a.en.ents.slice
   have h:Hid (aa s=⟨g.es,g.sh,g.lv,0⟩):=b.out.trans (by rw[j];rfl);obtain⟨F,⟨L,q1,q2⟩,J⟩:=(k.out.below a.be H).facts;obtain⟨W,X,Y,Z,_,_,_,_,_,fz⟩:=a.cells;have V:=a.lt;have B:=d.out.trans (a.be.mono d.out.size);have N:Hid (∀ x y z,jh (((u2.setCell ⟨u.heap.size,0,none⟩ x).setCell ⟨u.heap.size,1,none⟩ y).setCell ⟨u.heap.size,2,none⟩ z) u.heap.size u2.heap.size (.slice C E D) g.es):=fun x y z=>(((a.en.up a.tl).grown (Wo u2 u.heap.size x y z) (by omega)).low (by omega))
   clear b j k d a;go_wp2;refine bodyPost_ret (v:=.tuple #[.agg #[.slice C E D,.bool g.sh,.int .i64 g.lv],.int .i64 0]) ?_ rfl ⟨.slice C E D,by rw[h.out],by rw[h.out];exact (N.out _ _ _).up (by simp),Ec B _ _ _⟩;rw[results_cell_tmp rfl];go_simp
end Go.Proofs.YtjbmgghehdemdaaGreatDoor
