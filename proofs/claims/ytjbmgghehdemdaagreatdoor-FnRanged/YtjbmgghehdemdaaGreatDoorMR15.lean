/- PPut6 -/
import Derived.Deep.RegionLaw
import Derived.Deep.MidRow
import Derived.Lib.AppendZeros
import Derived.Laws.BytesString
import Derived.Lib.AppendStr
import Derived.Test.YtjbmgghehdemdaaGreatDoorMR14
import Derived.Deep.RegionHeldLaw
namespace Go.Proofs.YtjbmgghehdemdaaGreatDoor
set_option maxRecDepth 100000
set_option maxHeartbeats 16000000
open _root_.Go.Proofs.Tryz
def PW (l:List Rw):Prop:=l.Pairwise fun a b=>ltK a.key b.key=true
theorem wo {l:List Rw}(h:lm l):PW l:=by
 unfold PW;rw[List.pairwise_iff_getElem];intro i j c a b;have:=h i j b a;unfold dh at this;rw[List.getElem?_eq_getElem c,List.getElem?_eq_getElem a]at this;exact this
theorem wl {l:List Rw}(h:PW l):lm l:=by
 intro i j b a;unfold PW at h;rw[List.pairwise_iff_getElem]at h;have:=h i j (by omega) a b;unfold dh;rw[List.getElem?_eq_getElem (show i<l.length by omega),List.getElem?_eq_getElem a];exact this
theorem oh {l:List Rw}:dm l=true↔l.length<=60/\(∀ x ∈ l,sz1 x=true)/\PW l:=by
 constructor
 .intro h
  refine⟨mz h,fun x hx=>?_,wo (p9 h)⟩;obtain⟨c,a,b⟩:=N9 h x hx;exact Gd c a b
 .rintro⟨a,b,d⟩
  refine ue a fun i hi=>?_
  unfold lq;have f:dh l i ∈ l:=List.mem_of_getElem? (zy hi);rw[b _ f,Bool.true_and];by_cases e:i=0
  .simp[e]
  .rw[wl d (i-1) i (by omega) hi]
   simp
theorem ao6 {g:List Rw}(b:lm g){x:Rw}(c:x ∈ g):x.key=mu g\/ltK x.key (mu g)=true:=by
 obtain⟨i,a⟩:=List.getElem?_of_mem c;have d:=(List.getElem?_eq_some_iff.1 a).1;by_cases e:i=g.length-1
 .left
  unfold mu;rw[<- e,mx a]
 .right
  have:=b i (g.length-1) (by omega) (by omega);rw[mx a]at this;exact this
theorem ao5 {g:List Rw}(b:lm g){x:Rw}(d:x ∈ g):qb g=x.key\/ltK (qb g) x.key=true:=by
 obtain⟨i,a⟩:=List.getElem?_of_mem d;have c:=(List.getElem?_eq_some_iff.1 a).1;by_cases e:i=0
 .left
  unfold qb;rw[<- e,mx a]
 .right
  have:=b 0 i (by omega) c;rw[mx a]at this;exact this
theorem av1 {a b c d:ByteArray}(h1:a=b\/ltK a b=true) (h2:ltK b c=true) (e:c=d\/ltK c d=true):ltK a d=true:=by
 have f:ltK a c=true:=by
  rcases h1 with rfl|h1
  .exact h2
  .exact lf h1 h2
 rcases e with rfl|e
 .exact f
 .exact lf f e
theorem uk.pw {gs:List (List Rw)}(a:uk gs):PW gs.flatten:=by
 unfold PW;rw[List.pairwise_flatten];refine⟨fun g hg=>wo (p9 (a.good g hg).1),?_⟩;rw[List.pairwise_iff_getElem];intro i j d f s x q y r;have b:gs[i]? = some gs[i]:=List.getElem?_eq_getElem d;have c:gs[j]? = some gs[j]:=List.getElem?_eq_getElem f;obtain⟨l,t⟩:=a.good gs[i] (List.getElem_mem d);obtain⟨n,u⟩:=a.good gs[j] (List.getElem_mem f);have k:ltK (mu gs[i]) (qb gs[j])=true:=by
  by_cases e:j=i+1
  .exact a.rise i _ _ b (by rw[<- e];exact c)
  .obtain⟨m,h⟩:∃ m,gs[j-1]? = some m:=⟨_,List.getElem?_eq_getElem (by omega)⟩
   have o:=a.ends (j-1-i-1) i _ m b (by rw[show i+1+(j-1-i-1)=j-1 by omega];exact h);have p:=a.rise (j-1) m _ h (by rw[show j-1+1=j by omega];exact c);exact lf o p
 exact av1 (ao6 (p9 l) q) k (ao5 (p9 n) r)
theorem al9 {gs:List (List Rw)}(h1:∀ g ∈ gs,g.length<=60/\0<g.length/\∀ x ∈ g,sz1 x=true) (h2:PW gs.flatten):uk gs:=by
 unfold PW at h2;rw[List.pairwise_flatten]at h2;refine⟨fun g hg=>⟨oh.2 ⟨(h1 g hg).1,(h1 g hg).2.2,h2.1 g hg⟩,(h1 g hg).2.1⟩,fun i a b ha hb=>?_⟩;have c:=(List.getElem?_eq_some_iff.1 ha);have d:=(List.getElem?_eq_some_iff.1 hb);have:=List.pairwise_iff_getElem.1 h2.2 i (i+1) c.1 d.1 (by omega);rw[c.2,d.2]at this;have f:=(h1 a (List.mem_of_getElem? ha)).2.1;have e:=(h1 b (List.mem_of_getElem? hb)).2.1;exact this (dh a (a.length-1)) (List.mem_of_getElem? (zy (by omega))) (dh b 0) (List.mem_of_getElem? (zy e))
def gz (l:List Rw) (x:Rw):List Rw:=l.take (az l x.key)++([x]++l.drop (if d9 l x.key then az l x.key+1 else az l x.key))
theorem ai6 {l:List Rw} {key:ByteArray}(d:lm l):∀ y ∈ l.take (az l key),ltK y.key key=true:=by
 intro y e;obtain⟨i,a⟩:=List.getElem?_of_mem e;obtain⟨f,c,g⟩:=n6 key d;have b:=(List.getElem?_eq_some_iff.1 a).1;rw[List.length_take]at b;rw[List.getElem?_take_of_lt (by omega)]at a;have:=c i (by omega);rw[mx a]at this;exact this
theorem Yo {l:List Rw} {key:ByteArray}(d:lm l):∀ y ∈ l.drop (if d9 l key then az l key+1 else az l key),ltK key y.key=true:=by
 intro y f;obtain⟨i,a⟩:=List.getElem?_of_mem f;obtain⟨g,h,e⟩:=n6 key d;rw[List.getElem?_drop]at a;have b:=(List.getElem?_eq_some_iff.1 a).1
 cases ht:d9 l key
 .rw[ht]at a b
  simp only[Bool.false_eq_true,if_false]at a b;have c:=e (az l key+i) (by omega) b;rw[mx a]at c;exact T1 c (a27 d ht y (List.mem_of_getElem? a))
 .rw[ht]at a b
  simp only[if_true]at a b;unfold d9 at ht;rw[Bool.and_eq_true,decide_eq_true_eq,decide_eq_true_eq,ya]at ht;have c:=d (az l key) (az l key+1+i) (by omega) b;rw[ht.2,mx a]at c;exact c
theorem an6 {l:List Rw} {x:Rw}(d:PW l):PW (gz l x):=by
 have h:=wl d;have e:=ai6 (key:=x.key) h;have f:=Yo (key:=x.key) h;unfold gz PW;rw[List.pairwise_append,List.pairwise_append];refine⟨List.Pairwise.sublist (List.take_sublist _ _) d,⟨List.pairwise_singleton _ _,List.Pairwise.sublist (List.drop_sublist _ _) d,fun a ha b c=>?_⟩,fun a ha b c=>?_⟩
 .simp at ha
  subst ha;exact f b c
 .rcases List.mem_append.1 c with c|c
  .simp at c
   subst c;exact e a ha
  .exact lf (e a ha) (f b c)
theorem Nl {l:List Rw} {x y:Rw}(h:y ∈ gz l x):y=x\/y ∈ l:=by
 unfold gz at h;rcases List.mem_append.1 h with h|h
 .exact .inr (List.mem_of_mem_take h)
 .rcases List.mem_append.1 h with h|h
  .simp at h;exact .inl h
  .exact .inr (List.mem_of_mem_drop h)
theorem Nk {l:List Rw} {x:Rw}(a:lm l):(gz l x).length<=l.length+1:=by
 have:=(n6 x.key a).1;unfold gz;simp only[List.length_append,List.length_take,List.length_drop,List.length_singleton];split <;> omega
open Go.RowKit
structure bj (w:World) (lo hi:Nat) (v:Value) (gs:List (List Rw)) (vs:List Value):Prop where
 top:hi<=w.heap.size
 len:vs.length=gs.length
 row:w.ownsRow lo 32 1 v gs.length vs
 rlt:∀ g,v.ownBlock=some g->g<hi
 ins:∀ (k:Nat) (g:List Rw),gs[k]? = some g->∃ x,vs[k]? = some x/\Rws w lo x g/\∀ b,x.ownBlock=some b->b<hi
 two:∀ (i j:Nat) (x y:Value),i≠j->vs[i]? = some x->vs[j]? = some y->x.ownBlock=none\/x.ownBlock≠y.ownBlock
theorem Kw {w w':World} {B e size n:Nat} {v:Value} {xs:List Value}(h:w.ownsRow B e size v n xs) (j:∀ g,v.ownBlock=some g->w'.heap[g]? = w.heap[g]?):w'.ownsRow B e size v n xs:=by
 refine⟨h.1,?_⟩;rcases h.2 with a|⟨g,c,d,b,a,f,i⟩
 .exact .inl a
 .exact .inr ⟨g,c,d,b,a,by rw[j g (by rw[b];rfl)];exact f,i⟩
theorem bj.same {w w':World} {a hi:Nat} {v:Value} {gs:List (List Rw)} {vs:List Value}(h:bj w a hi v gs vs) (f:w.heap.size<=w'.heap.size) (d:∀ g,a<=g->g<hi->w'.heap[g]? = w.heap[g]?):bj w' a hi v gs vs:=by
 refine⟨Nat.le_trans h.top f,h.len,Kw h.row (fun g hg=>d g (World.ownsRow.lt h.row g hg).1 (h.rlt g hg)),h.rlt,fun k g hg=>?_,h.two⟩;obtain⟨x,i,c,e⟩:=h.ins k g hg;exact⟨x,i,Kw c (fun b hb'=>d b (World.ownsRow.lt c b hb').1 (e b hb')),e⟩
theorem bj.below {w w':World} {b hi:Nat} {v:Value} {gs:List (List Rw)} {vs:List Value}(h:bj w b hi v gs vs) (a:Below w.heap.size w w'):bj w' b hi v gs vs :=
 h.same a.size (fun g _ hg=>a.block g (Nat.lt_of_lt_of_le hg h.top))
theorem bj.high {w:World} {e hi d:Nat} {v:Value} {gs:List (List Rw)} {vs:List Value}(h:bj w e hi v gs vs) (h1:hi<=d) (h2:d<=w.heap.size):bj w e d v gs vs :=
 ⟨h2,h.len,h.row,fun g hg=>Nat.lt_of_lt_of_le (h.rlt g hg) h1,fun k g hg=>by obtain⟨x,a,b,c⟩:=h.ins k g hg;exact⟨x,a,b,fun q hq=>Nat.lt_of_lt_of_le (c q hq) h1⟩,h.two⟩
theorem bj.nil (w:World) (a:Nat):bj w a w.heap.size (.slice none 0 0) [] [] :=
 ⟨bR,rfl,⟨rfl,.inl ⟨rfl,rfl⟩⟩,fun g hg=>(by cases hg),fun k g hg=>by simp at hg,fun i j x y _ hx=>by simp at hx⟩
theorem bj.apart {w:World} {e hi:Nat} {v:Value} {gs:List (List Rw)} {vs:List Value}(h:bj w e hi v gs vs){B n:Nat} {x:Value} {xs:List Value}(d:w.ownsRow B 37 3 x n xs):v.ownBlock=none\/v.ownBlock≠x.ownBlock:=by
 rcases h.row.2 with ⟨rfl,_⟩|⟨g,f,j,rfl,_,b,_⟩
 .exact .inl rfl
 .refine .inr fun c=>?_
  rcases d.2 with ⟨rfl,_⟩|⟨g',i,k,rfl,_,a,_⟩
  .cases c
  .have:g=g':=Option.some.inj c
   subst this;rw[b]at a;injection a with q1;injection q1 with _ q2;exact absurd q2 (by decide)
theorem bj.form {w:World} {d hi:Nat} {v:Value} {gs:List (List Rw)} {vs:List Value}(h:bj w d hi v gs vs):∃ a c,v=.slice a gs.length c/\∀ (k:Nat) (x:Value),vs[k]? = some x->∃ g,a=some ⟨g,0,none⟩/\d<=g/\g<hi/\w.cell? ⟨g,k,none⟩=some x/\∀ j,w.frozen? ⟨g,j,none⟩=false:=by
 rcases h.row.2 with ⟨rfl,n⟩|⟨g,o,e,rfl,i,b,p,q,r,f⟩
 .have:gs=[]:=List.eq_nil_of_length_eq_zero n
  subst this;exact⟨_,_,rfl,fun k x hx=>by have:=(List.getElem?_eq_some_iff.1 hx).1;rw[h.len]at this;simp at this⟩
 .refine⟨_,_,rfl,fun k x hx=>⟨g,rfl,i,h.rlt g rfl,?_,fun j=>by simp[World.frozen?,b]⟩⟩
  have m:=(List.getElem?_eq_some_iff.1 hx).1;rw[h.len]at m;have l:e[k]? = some x:=by
   rw[<- Array.getElem?_toList];rw[<- f,List.getElem?_take_of_lt (by omega)]at hx;exact hx
  simp[World.cell?,b,l]
theorem Ax {v x:Value}(h:v.ownBlock=none\/v.ownBlock≠x.ownBlock):x.ownBlock=none\/x.ownBlock≠v.ownBlock:=by
 cases c:x.ownBlock with
 | none=>exact .inl rfl
 | some j =>
  refine .inr fun e=>?_
  rcases h with h|h
  .rw[h]at e;cases e
  .exact h (by rw[c];exact e.symm)
theorem bj.push {w u u':World} {l hi g cap:Nat} {v x0:Value} {l0:List Rw} {gs:List (List Rw)} {vs:List Value}(h:bj w l hi v gs vs) (E:l<=w.heap.size) (L:Below w.heap.size w u) (h0:Rws u w.heap.size x0 l0) (t:u.grownBy u' v.ownBlock) (A:u'.ownsRow l 32 1 (.slice (some ⟨g,0,none⟩) (gs.length+1) cap) (gs.length+1) (vs++[x0])) :
  bj u' l u'.heap.size (.slice (some ⟨g,0,none⟩) (gs.length+1) cap) (gs++[l0]) (vs++[x0]):=by
 have m:=h.below L;have o:∀ b,x0.ownBlock=some b->w.heap.size<=b:=fun b hb=>(World.ownsRow.lt h0 b hb).1
 have r:Rws u' l x0 l0:=by
  have q:=World.ownsRow.kept h0 t (Ax (m.apart h0));refine⟨q.1,?_⟩;rcases q.2 with q2|⟨g,cap,C,a,b,c⟩
  .exact .inl q2
  .exact .inr ⟨g,cap,C,a,Nat.le_trans E b,c⟩
 have p:∀ (i:Nat) (y:Value),vs[i]? = some y->∀ b,y.ownBlock=some b->b<w.heap.size:=fun i y hy b hb=>by
  have D:=(List.getElem?_eq_some_iff.1 hy).1;obtain⟨q,f⟩:∃ q,gs[i]? = some q:=⟨_,List.getElem?_eq_getElem (by rw[<- h.len];exact D)⟩
  obtain⟨z,B,_,K⟩:=h.ins i q f;rw[hy]at B;obtain rfl:=Option.some.inj B;exact Nat.lt_of_lt_of_le (K b hb) h.top
 refine⟨bR,by simp[h.len],by simpa using A,fun b hb=>(World.ownsRow.lt A b hb).2,fun k q f=>?_,fun i j x y hij d hy=>?_⟩
 .by_cases c:k<gs.length
  .rw[List.getElem?_append_left c]at f
   obtain⟨x,d,s,_⟩:=m.ins k q f;have n:=World.ownsRow.kept s t (Ax (m.apart s));exact⟨x,by rw[List.getElem?_append_left (by rw[h.len];exact c)];exact d,n,fun b hb=>(World.ownsRow.lt n b hb).2⟩
  .have J:=(List.getElem?_eq_some_iff.1 f).1
   have:k=gs.length:=by simp at J;omega
   subst this;simp at f;subst f;exact⟨x0,by rw[<- h.len];simp,r,fun b hb=>(World.ownsRow.lt r b hb).2⟩
 .have M:=(List.getElem?_eq_some_iff.1 d).1
  have N:=(List.getElem?_eq_some_iff.1 hy).1;simp at M N;by_cases F:i<vs.length
  .rw[List.getElem?_append_left F]at d
   by_cases G:j<vs.length
   .rw[List.getElem?_append_left G]at hy
    exact h.two i j x y hij d hy
   .have:j=vs.length:=by omega
    subst this;simp at hy;subst hy
    cases e:x.ownBlock with
    | none=>exact .inl rfl
    | some b =>
     refine .inr fun c=>?_
     have H:=p i x d b e;have I:=o b c.symm;omega
  .have:i=vs.length:=by omega
   subst this;simp at d;subst d;rw[List.getElem?_append_left (by omega)]at hy
   cases e:x0.ownBlock with
   | none=>exact .inl rfl
   | some b =>
    refine .inr fun c=>?_
    have H:=p j y hy b c.symm;have I:=o b e;omega
theorem bz {W:World} {B:Nat} {v:Value} {l:List Rw}(h:Rws W B v l):∃ a c,v=.slice a l.length c:=by
 rcases h.form with ⟨rfl,rfl⟩|⟨g,c,rfl,_,_⟩
 .exact⟨_,_,rfl⟩
 .exact⟨_,_,rfl⟩
theorem T8 {W:World} {B:Nat} {v:Value} {l:List Rw} {x:Rw}(h:W.ownsRow B 37 3 v (l.length+1) (go l++rwC x)):Rws W B v (l++[x]):=by
 unfold Rws;have a:(l++[x]).length=l.length+1:=by simp
 have b:go (l++[x])=go l++rwC x:=by rw[xv];simp[go]
 rw[a,b];exact h
theorem C6 (w:World) (n:Nat) (x y z:Value) (ty:TypeId) (b:n=w.heap.size):∀ j u,[x,y,z][j]? = some u->(w.alloc (.cells #[x,y,z] ty)).cell? ((⟨n,0,none⟩:Addr).add j)=some u:=by
 subst b;intro j u a;match j,a with
 | 0,a=>simp at a;subst a;simp[Addr.add]
 | 1,a=>simp at a;subst a;simp[Addr.add]
 | 2,a=>simp at a;subst a;simp[Addr.add]
 | j+3,a=>simp at a
theorem Qv {u u' w':World} {r:Option Nat}(h:u.grownBy w' r) (h1:u.heap=u'.heap) (h2:u.os=u'.os) (a:u.tape=u'.tape) (b:u.output=u'.output):u'.grownBy w' r :=
 ⟨h.os.trans h2,h.tape.trans a,h.output.trans b,by rw[<- h1];exact h.size,fun k hk hne=>by rw[<- h1]at hk ⊢;exact h.block k hk hne⟩
theorem ew {W:World} {B c:Nat} {a:Option Addr} {l:List Rw}(h:Rws W B (.slice a l.length c) l):dd W a l:=by
 rcases h.form with ⟨_,b⟩|⟨g,f,d,_,_⟩
 .exact .inl b
 .have e:=(Value.slice.inj d).1
  subst e;exact h.sl
theorem xp {a b:ByteArray}(h:¬ a=b):(a.toList == b.toList)=false:=by
 rw[beq_eq_false_iff_ne];intro e;rw[ByteArray.toList_eq,ByteArray.toList_eq]at e;exact h (ByteArray.ext (Array.toList_inj.1 e))
theorem Oy {w:World} {B:Nat} {v:Value} {l:List Rw}(h:Rws w B v l) (a:0<l.length):∃ g c,v=.slice (some ⟨g,0,none⟩) l.length c/\∀ (k:Nat) (e:Rw),l[k]? = some e->w.cell? ⟨g,k*3,none⟩=some (.string e.key):=by
 rcases h.form with ⟨rfl,rfl⟩|⟨g,c,rfl,_,_⟩
 .simp at a
 .exact⟨g,c,rfl,fun k e hk=>(h.cells k e hk).1⟩
theorem Fu:(prog.info? 32).map (fun i=>(i.zero,i.size,i.bytes))=some (some (.slice none 0 0),1,24):=by kernel_rfl
theorem bj.store {w u:World} {m hi g c k:Nat} {x0:Value} {l0:List Rw} {gs:List (List Rw)} {vs:List Value}(h:bj w m hi (.slice (some ⟨g,0,none⟩) gs.length c) gs vs) (I:m<=w.heap.size) (M:Below w.heap.size w u) (h0:Rws u w.heap.size x0 l0) (D:k<gs.length) :
  bj (u.setCell ⟨g,k,none⟩ x0) m (u.setCell ⟨g,k,none⟩ x0).heap.size (.slice (some ⟨g,0,none⟩) gs.length c) (gs.set k l0) (vs.set k x0):=by
 have l:=h.below M;have s:=World.ownsRow.stored l.row k x0;have C:u.grownBy (u.setCell ⟨g,k,none⟩ x0) (Value.slice (some ⟨g,0,none⟩) gs.length c).ownBlock:=s.2;have r:∀ (i:Nat) (y:Value),vs[i]? = some y->∀ b,y.ownBlock=some b->b<w.heap.size:=fun i y d b hb=>by
  have H:=(List.getElem?_eq_some_iff.1 d).1;obtain⟨q,f⟩:∃ q,gs[i]? = some q:=⟨_,List.getElem?_eq_getElem (by rw[<- h.len];exact H)⟩
  obtain⟨z,E,_,L⟩:=h.ins i q f;rw[d]at E;obtain rfl:=Option.some.inj E;exact Nat.lt_of_lt_of_le (L b hb) h.top
 have p:∀ b,x0.ownBlock=some b->w.heap.size<=b:=fun b hb=>(World.ownsRow.lt h0 b hb).1
 have t:Rws (u.setCell ⟨g,k,none⟩ x0) m x0 l0:=by
  have q:=World.ownsRow.kept h0 C (Ax (l.apart h0));refine⟨q.1,?_⟩;rcases q.2 with q2|⟨g,F,G,a,b,c⟩
  .exact .inl q2
  .exact .inr ⟨g,F,G,a,Nat.le_trans I b,c⟩
 have n:k<vs.length:=by rw[h.len];exact D
 refine⟨bR,by simp[h.len],by rw[List.length_set];exact s.1,fun b hb=>(World.ownsRow.lt s.1 b hb).2,fun j q f=>?_,fun i j x y hij hx d=>?_⟩
 .by_cases e:k=j
  .subst e
   rw[List.getElem?_set_self D]at f;obtain rfl:=Option.some.inj f;exact⟨x0,List.getElem?_set_self n,t,fun b hb=>(World.ownsRow.lt t b hb).2⟩
  .rw[List.getElem?_set_ne e]at f
   obtain⟨y,d,B,_⟩:=l.ins j q f;have o:=World.ownsRow.kept B C (Ax (l.apart B));exact⟨y,by rw[List.getElem?_set_ne e];exact d,o,fun b hb=>(World.ownsRow.lt o b hb).2⟩
 .by_cases v:k=i
  .subst v
   rw[List.getElem?_set_self n]at hx;obtain rfl:=Option.some.inj hx;rw[List.getElem?_set_ne hij]at d
   cases e:x0.ownBlock with
   | none=>exact .inl rfl
   | some b =>
    refine .inr fun c=>?_
    have J:=r j y d b c.symm;have K:=p b e;omega
  .rw[List.getElem?_set_ne v]at hx
   by_cases A:k=j
   .subst A
    rw[List.getElem?_set_self n]at d;obtain rfl:=Option.some.inj d
    cases e:x.ownBlock with
    | none=>exact .inl rfl
    | some b =>
     refine .inr fun c=>?_
     have J:=r i x hx b e;have K:=p b c.symm;omega
   .rw[List.getElem?_set_ne A]at d
    exact h.two i j x y hij hx d
def BkV (w:World) (v:Value) (gs:List (List Rw)):Prop :=
 ∃ a c,v=.slice a gs.length c/\∀ (k:Nat) (g:List Rw),gs[k]? = some g->∃ b o ax cx,a=some ⟨b,o,none⟩/\w.cell? ⟨b,o+k,none⟩=some (.slice ax g.length cx)/\dd w ax g
theorem BkV.below {w w':World} {B:Nat} {v:Value} {gs:List (List Rw)}(h:BkV w v gs) (f:Below B w w') (e:w.heap.size<=B):BkV w' v gs:=by
 obtain⟨a,c,rfl,h⟩:=h;refine⟨a,c,rfl,fun k g hg=>?_⟩;obtain⟨b,o,i,j,l,d,m⟩:=h k g hg;exact⟨b,o,i,j,l,(f.cell (Nat.lt_of_lt_of_le (ag d) e)).trans d,m.below f e⟩
theorem bj.bk {w:World} {m hi:Nat} {v:Value} {gs:List (List Rw)} {vs:List Value}(h:bj w m hi v gs vs):BkV w v gs:=by
 obtain⟨a,c,rfl,q⟩:=h.form;refine⟨a,c,rfl,fun k g hg=>?_⟩;obtain⟨x,l,d,_⟩:=h.ins k g hg;obtain⟨b,i,_,_,j,_⟩:=q k x l;obtain⟨e,f,rfl⟩:=bz d;exact⟨b,0,e,f,i,by simpa using j,ew d⟩
theorem ae3 (g:List Rw):(pbT g).size<=300:=by
 unfold pbT;split
 .rename_i h
  unfold ko at h;simp only[Bool.and_eq_true,decide_eq_true_eq]at h;rw[qe];exact h.2
 .exact Nat.zero_le _
theorem av8 {g:List Rw}(h:ko g=true):pbT g=pgB g:=by unfold pbT pgB;rw[if_pos h]
def qz (l:List Rw) (key:ByteArray):List Rw:=l.take (az l key)++l.drop (az l key+1)
theorem Ym {l:List Rw} {key:ByteArray}(a:lm l) (ht:d9 l key=true):(qz l key).length=l.length-1:=by
 have b:=(py a ht).2;unfold qz;rw[List.length_append,List.length_take,List.length_drop];omega
theorem Yn (l:List Rw) (key:ByteArray):(qz l key).Sublist l:=by
 unfold qz;conv=>rhs;rw[<- List.take_append_drop (az l key) l]
 refine List.Sublist.append (List.Sublist.refl _) ?_;rw[show l.drop (az l key+1)=(l.drop (az l key)).drop 1 by rw[List.drop_drop]];exact List.drop_sublist _ _
theorem xu {P:Program}(w:World) (t ty e:TypeId) (i:TypeInfo) (ht:P.underlying t=some (.slice e)) (hi:P.info? e=some i) (b:Option Addr) (n c d:Nat) (a:n<=c) :
  (Builtin.append_ #[t,t] ty #[.slice b n c,.slice none 0 d]).run P w=.ok (.slice b n c) w:=by
 cases b <;> simp[Builtin.append_,run_underlying ht,sizeOf,typeInfo,hi,a,storeCells,Builtin.lenOf,Builtin.firstCells]
theorem Ft:(prog.info? 37).map (fun i=>(i.zero,i.size,i.bytes))=some (some (.agg #[.string ⟨#[]⟩,.string ⟨#[]⟩,.string ⟨#[]⟩]),3,48):=by kernel_rfl
def SlV (w:World) (v:Value) (l:List Rw):Prop:=∃ a c,v=.slice a l.length c/\dd w a l
theorem SlV.below {w w':World} {B:Nat} {v:Value} {l:List Rw}(h:SlV w v l) (d:Below B w w') (b:w.heap.size<=B):SlV w' v l:=by
 obtain⟨a,c,rfl,h⟩:=h;exact⟨a,c,rfl,h.below d b⟩
theorem Rws.slV {w:World} {B:Nat} {v:Value} {l:List Rw}(h:Rws w B v l):SlV w v l:=by
 obtain⟨a,c,rfl⟩:=bz h;exact⟨a,c,rfl,ew h⟩
theorem a35 (l:List Rw):∀ v ∈ go l,v.oneCell'=true:=by
 intro v a;simp only[go,List.mem_flatMap]at a;obtain⟨x,_,b⟩:=a;simp[rwC]at b
 rcases b with rfl|rfl|rfl <;> rfl
theorem Gc {w:World} {b o:Nat} {l:List Rw}(h:∀ (k:Nat) (e:Rw),l[k]? = some e->w.cell? ⟨b,o+k*3,none⟩=some (.string e.key)/\w.cell? ⟨b,o+k*3+1,none⟩=some (.string e.text)/\w.cell? ⟨b,o+k*3+2,none⟩=some (.string e.val)) :
  ∀ j v,(go l)[j]? = some v->w.cell? ((⟨b,o,none⟩:Addr).add j)=some v:=by
 intro j v a;have f:(⟨b,o,none⟩:Addr).add j=⟨b,o+j,none⟩:=by unfold Addr.add;split <;> simp_all
 rw[f];have p:=(List.getElem?_eq_some_iff.1 a).1;rw[yk]at p;obtain⟨k,i,rfl,d⟩:∃ k i,j=k*3+i/\i<3:=⟨j / 3,j % 3,by omega,by omega⟩
 obtain⟨e,c⟩:∃ e,l[k]? = some e:=⟨_,List.getElem?_eq_getElem (by omega)⟩
 rw[Ox l k i e c d]at a;obtain⟨g,m,n⟩:=h k e c;rw[show o+(k*3+i)=o+k*3+i by omega];match i,d with
 | 0,_=>simp[rwC]at a;subst a;exact g
 | 1,_=>simp[rwC]at a;subst a;exact m
 | 2,_=>simp[rwC]at a;subst a;exact n
theorem Bu {w:World} {o:Oper} {a:Act} {K:Act->World->Prop} {Q:Exit->Act->World->Prop}(s x:Operand)
  (t:o.op=.call { callee:=.builtin .append,args:=#[s,x],argTypes:=#[32,32] }) (B:Nat) (v p:Value) (l l':List Rw) (y:a.eval s=v) (z:a.eval x=p) (k:Rws w B v l) (m:SlV w p l')
  (N:l.length+l'.length<=1048576) (C:B<=w.heap.size) (h:∀ v' w',Rws w' B v' (l++l')->w.grownBy w' v.ownBlock->K (a.put o.dst v') w'):Oper.wp prog o a w K Q:=by
 obtain⟨A,r,G,E,F⟩:=info_parts Ft;have q:∀ (d:Addr) (c:Nat),p=.slice (some d) l'.length c->(∀ j u,(go l')[j]? = some u->w.cell? (d.add j)=some u)->Oper.wp prog o a w K Q:=fun d c e hc=>by
  refine wp_append_own w s x 32 t B 37 A _ 3 48 underlying32 r G E F rfl (by decide) v l.length (go l) y k d l'.length c (go l') (z.trans e) (yk l') hc (a35 l') (by unfold maxLen;omega) (by omega) C fun v' w' i h2 _=>h v' w' ?_ h2
  unfold Rws;rw[List.length_append,xv];exact i
 obtain⟨I,f,e,m⟩:=m;rcases m with rfl|⟨b,H,rfl,L⟩
 .cases I with
  | none =>
   obtain⟨b,n,J,rfl,D⟩:∃ b n c,v=.slice b n c/\n<=c:=by
    rcases k.form with ⟨rfl,rfl⟩|⟨g,M,rfl,i,_⟩
    .exact⟨_,_,_,rfl,bR⟩
    .exact⟨_,_,_,rfl,i⟩
   refine Go.Lib.wp_append_run w s x 32 32 t _ _ y (z.trans e) _ _ (xu w _ _ _ A underlying32 r b n J f D) ?_;refine h _ _ ?_ ⟨rfl,rfl,rfl,bR,fun _ _ _=>rfl⟩;rw[List.append_nil];exact k
  | some d=>exact q d f e (fun j u hj=>by simp[go]at hj)
 .exact q ⟨b,H,none⟩ f e (Gc L)
theorem ef {w:World} {d:Array Oper} {rest:List Oper} {o:Oper} {a:Act} {Q:Exit->Act->World->Prop}(g:o.guard=none) (s x:Operand)
  (k:o.op=.call { callee:=.builtin .append,args:=#[s,x],argTypes:=#[32,32] }) (B:Nat) (v c:Value) (l b:List Rw) (m:a.eval s=v) (n:a.eval x=c) (i:Rws w B v l) (j:SlV w c b)
  (e:l.length+b.length<=1048576) (f:B<=w.heap.size) (h:∀ v' w',Rws w' B v' (l++b)->w.grownBy w' v.ownBlock->wpList prog d Q rest (a.put o.dst v') w'):wpList prog d Q (o::rest) a w :=
 wpList_plain g fun _ hK=>Bu s x k B v c l b m n i j e f fun v' w' h1 h2=>hK _ _ (h v' w' h1 h2)
theorem dz {w:World} {f:Array Oper} {o:Oper} {a:Act} {K:Act->World->Prop} {Q:Exit->Act->World->Prop} {E:Prop}(e:o.guard=none) (s x:Operand)
  (j:o.op=.call { callee:=.builtin .append,args:=#[s,x],argTypes:=#[32,32] }) (B:Nat) (v b:Value) (l l':List Rw) (k:a.eval s=v) (m:a.eval x=b) (g:Rws w B v l) (i:SlV w b l')
  (c:l.length+l'.length<=1048576) (d:B<=w.heap.size) (h:∀ v' w',Rws w' B v' (l++l')->w.grownBy w' v.ownBlock->K (a.put o.dst v') w') :
  if Region.wanted o (yielded f a.tmps)=true then Oper.wp prog o a w K Q else E:=by
 rw[if_pos (by simp[Region.wanted,e])];exact Bu s x j B v b l l' k m g i c d h
theorem kz {w u:World} {B:Nat} {v:Value} {l:List Rw}(h:Rws w B v l) (a:u.heap=w.heap):Rws u B v l:=by
 unfold Rws World.ownsRow at *;rw[a];exact h
theorem yn {w u:World} {a:Option Addr} {l:List Rw}(h:dd w a l) (g:u.heap=w.heap):dd u a l:=by
 rcases h with h|⟨b,o,d,f⟩
 .exact .inl h
 .refine .inr ⟨b,o,d,fun k e he=>?_⟩
  have c:∀ p,u.cell? p=w.cell? p:=fun p=>by unfold World.cell?;rw[g]
  rw[c,c,c];exact f k e he
theorem cz {W:World} {B a:Nat} {v:Value} {l:List Rw}(h:Rws W B v l) (e:a<=B):Rws W a v l:=by
 refine⟨h.1,?_⟩;rcases h.2 with d|⟨g,b,c,q1,q2,q3⟩
 .exact .inl d
 .exact .inr ⟨g,b,c,q1,by omega,q3⟩
theorem gh {w u:World} {v:Value} {l:List Rw}(h:SlV w v l) (i:u.heap=w.heap):SlV u v l:=by
 obtain⟨a,c,rfl,h⟩:=h;refine⟨a,c,rfl,?_⟩;rcases h with h|⟨b,o,f,g⟩
 .exact .inl h
 .refine .inr ⟨b,o,f,fun k e he=>?_⟩
  have d:∀ p,u.cell? p=w.cell? p:=fun p=>by unfold World.cell?;rw[i]
  rw[d,d,d];exact g k e he
theorem Td {w u w':World} {B:Nat} {r:Option Nat} {v:Value} {l:List Rw}(a:u.grownBy w' r) (h:Rws w B v l) (c:u.heap=w.heap) (b:v.ownBlock≠r):SlV w' v l :=
 Rws.slV (World.ownsRow.kept (kz h c) a (.inr b))
theorem sn (w:World) (n B:Nat) (b:n=w.heap.size) (a:B<=w.heap.size):Rws (w.alloc (.cells #[] 37)) B (.slice (some ⟨n,0,none⟩) 0 0) []:=by
 subst b;exact⟨rfl,.inr ⟨w.heap.size,0,#[],rfl,a,heap_alloc_new _ _,bR,Nat.zero_le _,rfl,rfl⟩⟩
theorem gg (w:World) (n B:Nat) (x:Rw) (b:n=w.heap.size) (a:B<=w.heap.size):Rws (w.alloc (.cells #[.string x.key,.string x.text,.string x.val] 37)) B (.slice (some ⟨n,0,none⟩) 1 1) [x]:=by
 subst b;exact⟨rfl,.inr ⟨w.heap.size,1,_,rfl,a,heap_alloc_new _ _,bR,by unfold maxLen;omega,rfl,rfl⟩⟩
theorem Fv:(prog.info? 5).map (fun i=>(i.zero,i.size,i.bytes))=some (some (.int .u8 0),1,1):=by kernel_rfl
def By6 (w:World) (base:Nat) (v:Value) (bs:List Int):Prop:=w.ownsRow base 5 1 v bs.length (bs.map (Value.int .u8))
theorem By6.form {w:World} {B:Nat} {v:Value} {bs:List Int}(h:By6 w B v bs):(v=.slice none 0 0/\bs=[])\/∃ g cap,v=.slice (some ⟨g,0,none⟩) bs.length cap:=by
 rcases h.2 with ⟨a,b⟩|⟨g,cap,c,a,_⟩
 .exact .inl ⟨a,by simpa using b⟩
 .exact .inr ⟨g,cap,a⟩
theorem By6.below {w w':World} {B:Nat} {v:Value} {bs:List Int}(h:By6 w B v bs) (a:Below w.heap.size w w'):By6 w' B v bs :=
 World.ownsRow.kept h (row:=none) ⟨a.os,a.tape,a.output,a.size,fun k hk _=>a.block k hk⟩ (by cases h:v.ownBlock <;> simp)
theorem By6.app {w:World} {B:Nat} {v:Value} {bs xs:List Int} {n:Nat}(a:n=xs.length) (h:w.ownsRow B 5 1 v (bs.length+n) (bs.map (Value.int .u8)++xs.map (Value.int .u8))):By6 w B v (bs++xs):=by
 subst a;unfold By6;simpa using h
theorem a48 (s:ByteArray):Lib.strCells s=(bI s).map (Value.int .u8):=by
 unfold Lib.strCells bI;rw[List.map_map];rfl
theorem By6.str {w:World} {B:Nat} {v:Value} {bs:List Int} {s:ByteArray} {n:Nat}(a:n=s.size) (h:w.ownsRow B 5 1 v (bs.length+n) (bs.map (Value.int .u8)++Lib.strCells s)):By6 w B v (bs++bI s):=by
 rw[a48]at h;exact By6.app (a.trans (Gq s).symm) h
theorem ao9 (w:World) (n:Nat) (a:n=w.heap.size) (cs:List Int) (b:cs.length<=1000):By6 (w.alloc (.cells (cs.map (Value.int .u8)).toArray 5)) w.heap.size (.slice (some ⟨n,0,none⟩) cs.length cs.length) cs:=by
 subst a;refine⟨by simp,.inr ⟨w.heap.size,cs.length,(cs.map (Value.int .u8)).toArray,rfl,bR,heap_alloc_new _ _,bR,?_,by simp,?_⟩⟩
 .unfold maxLen;omega
 .apply List.take_of_length_le
  simp
theorem H0 (w:World) (n:Nat) (x y z t:Value) (ty:TypeId) (b:n=w.heap.size):∀ j u,[x,y,z,t][j]? = some u->(w.alloc (.cells #[x,y,z,t] ty)).cell? ((⟨n,0,none⟩:Addr).add j)=some u:=by
 subst b;intro j u a;match j,a with
 | 0,a=>simp at a;subst a;simp[Addr.add]
 | 1,a=>simp at a;subst a;simp[Addr.add]
 | 2,a=>simp at a;subst a;simp[Addr.add]
 | 3,a=>simp at a;subst a;simp[Addr.add]
 | j+4,a=>simp at a
theorem U0 (w:World) (n:Nat) (x:Value) (ty:TypeId) (b:n=w.heap.size):∀ j u,[x][j]? = some u->(w.alloc (.cells #[x] ty)).cell? ((⟨n,0,none⟩:Addr).add j)=some u:=by
 subst b;intro j u a;match j,a with
 | 0,a=>simp at a;subst a;simp[Addr.add]
 | j+1,a=>simp at a
theorem Ej:∀ (xs:List Int) (r:ByteArray),xs.foldl (fun r n=>r.push (UInt8.ofNat n.toNat)) r=⟨r.data++(xs.map fun x=>x.toNat.toUInt8).toArray⟩
 | [],r=>by simp
 | x::xs,r=>by
  simp only[List.map_cons,List.foldl_cons];rw[Ej xs];simp[ByteArray.push]
theorem Gj (b j:Nat):(⟨b,0,none⟩:Addr).add j=⟨b,j,none⟩:=by
 unfold Addr.add;split
 .rename_i h;subst h;rfl
 .simp
theorem a07 (w:World) (n:Nat) (e:n=w.heap.size) (x y z:Value) (t:TypeId) (a:Nat × Nat):∀ b,some (⟨n,0,none⟩:Addr)=some b->∀ j u,[x,y][j]? = some u->((w.alloc (.cells #[x,y] t a)).alloc (.cells #[z] t)).cell? (b.add j)=some u:=by
 subst e;intro b c j u d
 cases c
 rw[Gj,cell_of_row _ _ j #[x,y] t a (by rw[Below.heap_alloc _ _ _ (by simp)];exact heap_alloc_new w _)];simpa using d
theorem Mi {w:World} {B:Nat} {v:Value} {bs:List Int}(h:By6 w B v bs):(convert 22 9 v).run prog w=.ok (.string (byT bs)) w:=by
 rcases h.form with ⟨rfl,rfl⟩|⟨g,c,rfl⟩
 .rw[run_convert_bytes_string _ _ _ _ _ _ _ underlying22 underlying5 underlying9]
  rfl
 .rw[run_convert_bytes_string _ _ _ _ _ _ _ underlying22 underlying5 underlying9]
  have a:=run_loadCells_list (P:=prog) w ⟨g,0,none⟩ (bs.map (Value.int .u8)) (fun j v hj=>by
   have d:j<bs.length:=by have:=(List.getElem?_eq_some_iff.1 hj).1;simpa using this
   rw[Gj,World.ownsRow.cellAt h j (by omega),hj])
  simp only[List.length_map]at a;rw[run_bytesToString _ _ _ _ bs a,Ej];have b:ByteArray.empty.data=#[]:=rfl;rw[b];simp[byT]
def di (w:World) (b:Nat) (x:Rw):Prop:=w.heap[b]? = some (.cells #[.string x.key,.string x.text,.string x.val] 37)
theorem di.lt {w:World} {b:Nat} {x:Rw}(h:di w b x):b<w.heap.size:=(Array.getElem?_eq_some_iff.1 h).1
theorem di.cells {w:World} {b:Nat} {x:Rw}(h:di w b x):w.cell? ⟨b,0,none⟩=some (.string x.key)/\w.cell? ⟨b,1,none⟩=some (.string x.text)/\w.cell? ⟨b,2,none⟩=some (.string x.val) :=
 ⟨cell_of_row _ _ 0 _ _ _ h,cell_of_row _ _ 1 _ _ _ h,cell_of_row _ _ 2 _ _ _ h⟩
theorem di.below {w w':World} {b:Nat} {x:Rw}(h:di w b x) (a:Below w.heap.size w w'):di w' b x:=(a.block b h.lt).trans h
theorem di.ne {w:World} {B b n:Nat} {v:Value} {x:Rw} {xs:List Value}(h:di w b x) (i:w.ownsRow B 5 1 v n xs):some b≠v.ownBlock:=by
 rcases i.2 with ⟨rfl,_⟩|⟨g,j,k,rfl,_,f,_⟩
 .intro c;cases c
 .intro c
  have e:b=g:=Option.some.inj c;subst e;unfold di at h;rw[f]at h;injection h with a;injection a with _ d _;exact absurd d (by decide)
theorem di.kept {w w':World} {B b n:Nat} {v:Value} {x:Rw} {xs:List Value}(h:di w b x) (c:w.ownsRow B 5 1 v n xs) (a:w.grownBy w' v.ownBlock):di w' b x :=
 (a.block b h.lt (h.ne c)).trans h
theorem di.alloc {w:World} {b:Nat} {x:Rw}(h:di w b x) (o:Obj):di (w.alloc o) b x:=by
 unfold di;rw[Below.heap_alloc _ _ _ h.lt];exact h
theorem ky (w:World) (x:Rw):di (w.alloc (.cells #[.string x.key,.string x.text,.string x.val] 37)) w.heap.size x:=heap_alloc_new w _
theorem oy {W w w':World} {B n:Nat} {v:Value} {xs:List Value}(b:Below B W w) (d:w.ownsRow B 5 1 v n xs) (c:w.grownBy w' v.ownBlock) (a:B<=w.heap.size):Below B W w' :=
 Below.grown b c a (fun j hj=>(World.ownsRow.lt d j hj).1)
def PgR (w:World) (b:Nat) (t:ByteArray):Prop:=w.heap[b]? = some (.cells #[.string t] 232)
theorem PgR.cell {w:World} {b:Nat} {t:ByteArray}(h:PgR w b t):w.cell? ⟨b,0,none⟩=some (.string t):=cell_of_row _ _ 0 _ _ _ h
theorem PgR.frozen {w:World} {b:Nat} {t:ByteArray}(h:PgR w b t) (j:Nat):w.frozen? ⟨b,j,none⟩=false:=by unfold PgR at h;simp[World.frozen?,h]
theorem PgR.lt {w:World} {b:Nat} {t:ByteArray}(h:PgR w b t):b<w.heap.size:=(Array.getElem?_eq_some_iff.1 h).1
theorem PgR.set {w:World} {b:Nat} {t:ByteArray}(h:PgR w b t) (u:ByteArray):PgR (w.setCell ⟨b,0,none⟩ (.string u)) b u:=by
 unfold PgR at h ⊢;simp[World.setCell,Array.getElem?_modify,h]
theorem PgR.below {w w':World} {b:Nat} {t:ByteArray}(h:PgR w b t) (a:Below w.heap.size w w'):PgR w' b t:=(a.block b h.lt).trans h
theorem aq9 {w:World} {b n:Nat} {t:ByteArray}(a:PgR w b t) (g:n<=t.size) :
  Calls prog 172 #[.pointer (some ⟨b,0,none⟩),.int .i64 (n:Int)] w fun e w'=>e=.returned (.string (t.extract 0 n))/\w'=w.setCell ⟨b,0,none⟩ (.string (t.extract n t.size)):=by
 have c:=a.cell;have d:=a.frozen 0;have h:=a.lt;have f:(n:Int)<=(t.size:Int):=by omega
 go_enter func172,ntmps172;go_wp2;go_ret;exact⟨rfl,rfl⟩
theorem aq8 {w:World} {b n:Nat} {t:ByteArray} {ty:TypeId} {pv:Value}(f:w.cell? ⟨6,0,none⟩=some (.iface ty pv)) (a:PgR w b t) (g:t.size<n) :
  Calls prog 172 #[.pointer (some ⟨b,0,none⟩),.int .i64 (n:Int)] w fun e w'=>e=.panicked [{ v:=.iface ty pv,recovered:=false }]/\w'=w:=by
 have c:=a.cell;have h:=a.lt;have d:¬ (n:Int)<=(t.size:Int):=by omega
 go_enter func172,ntmps172;go_wp2;exact⟨rfl,rfl,rfl⟩
theorem ow {w:World} {b n:Nat} {t:ByteArray}(a:PgR w b t) (c:n<=t.size) :
  Calls prog 172 #[.pointer (some ⟨b,0,none⟩),.int .i64 (n:Int)] w fun e w'=>e=.returned (.string (t.extract 0 n))/\PgR w' b (t.extract n t.size)/\w.grownBy w' (some b) :=
 (aq9 a c).mono fun e w' ⟨h1,h2⟩=>⟨h1,by rw[h2];exact a.set _,by rw[h2];exact au w b 0 _⟩
theorem PgR.alloc {w:World} {b:Nat} {t:ByteArray}(h:PgR w b t) (o:Obj):PgR (w.alloc o) b t:=h.below (bY _)
theorem PgR.drew {w:World} {b:Nat} {t:ByteArray}(h:PgR w b t):PgR w.drew b t:=h
theorem se {w w':World} {b:Nat} {o:Obj}(h:(w.alloc o).grownBy w' (some b)) (_hb:b<w.heap.size):w.grownBy w' (some b) :=
 (World.grownBy_alloc w o (some b)).trans h
theorem An {w w':World} {r:Option Nat}(h:w.drew.grownBy w' r):w.grownBy w' r:=⟨h.os,h.tape,h.output,h.size,h.block⟩
def un (w:World) (b:Nat):Prop:=w.heap[b]? = some (.cells #[.string ⟨#[]⟩,.string ⟨#[]⟩,.string ⟨#[]⟩] 37)
theorem un.lt {w:World} {b:Nat}(h:un w b):b<w.heap.size:=(Array.getElem?_eq_some_iff.1 h).1
theorem un.frozen {w:World} {b:Nat}(h:un w b) (j:Nat):w.frozen? ⟨b,j,none⟩=false:=by unfold un at h;simp[World.frozen?,h]
theorem Fd (u:World) (b k:Nat) (x0 a c:Value) (h:b≠k):(((u.setCell ⟨b,0,none⟩ x0).setCell ⟨b,1,none⟩ a).setCell ⟨b,2,none⟩ c).heap[k]? = u.heap[k]?:=by
 simp[World.setCell,Array.getElem?_modify,h]
theorem Vb {w u:World} {b c:Nat} {x0 a d:Value}(h:w.grownBy u (some b)) (e:w.heap.size<=c):w.grownBy (((u.setCell ⟨c,0,none⟩ x0).setCell ⟨c,1,none⟩ a).setCell ⟨c,2,none⟩ d) (some b) :=
 ⟨h.os,h.tape,h.output,by simpa using h.size,fun k hk hne=>(Fd u c k x0 a d (by omega)).trans (h.block k hk hne)⟩
theorem Y1 {w1 w2 w3 w4:World} {b c:Nat}(k:b<c) (h:un w1 c) (g:w1.drew.grownBy w2 (some b)) (i:w2.grownBy w3 (some b)) (j:w3.grownBy w4 (some b)):un w4 c:=by
 have a:some c≠some b:=fun e=>by cases e;omega
 have d:un w2 c:=(g.block c h.lt a).trans h;have f:un w3 c:=(i.block c d.lt a).trans d;exact (j.block c f.lt a).trans f
theorem oi {t:ByteArray}(a:4<=t.size) (i:Nat) (hi:i<4) (u:World):(Instr.index 9 (.string (t.extract 0 4)) (.int .i64 (i:Int))).run prog u=.ok (.int .u8 (hd t i:Int)) u:=by
 have h:=d5 (t.extract 0 4) i (by rw[fh t a];omega) u;rw[zl t a (by omega),Nat.zero_add]at h;exact h
theorem Xj {w:World} {b:Nat} {t p:ByteArray}(C:PgR w b t) (o:o6 p t=true) (_hp:p.size<=1048576) (a2:t.size<=1048576) :
  Calls prog 173 #[.pointer (some ⟨b,0,none⟩),.string p] w fun e w'=>e=.returned (rwV (ld p t))/\PgR w' b (kp t)/\w.grownBy w' (some b):=by
 obtain⟨i,hn,h5⟩:=td o;have K:=C.lt;have s:Calls prog 172 #[.pointer (some ⟨b,0,none⟩),.int .i64 4] _ _:=ow (n:=4) (C.alloc (.cells #[.string ⟨#[]⟩,.string ⟨#[]⟩,.string ⟨#[]⟩] 37)) i;have c:∀ u:World,(Instr.index 9 (.string (t.extract 0 4)) (.int .i64 0)).run prog u=.ok (.int .u8 (hd t 0:Int)) u:=oi i 0 (by omega)
 have d:∀ u:World,(Instr.index 9 (.string (t.extract 0 4)) (.int .i64 1)).run prog u=.ok (.int .u8 (hd t 1:Int)) u:=oi i 1 (by omega)
 have f:∀ u:World,(Instr.index 9 (.string (t.extract 0 4)) (.int .i64 2)).run prog u=.ok (.int .u8 (hd t 2:Int)) u:=oi i 2 (by omega)
 have x3:∀ u:World,(Instr.index 9 (.string (t.extract 0 4)) (.int .i64 3)).run prog u=.ok (.int .u8 (hd t 3:Int)) u:=oi i 3 (by omega)
 have l0:=jc t 0;have l1:=jc t 1;have l2:=jc t 2;have l3:=jc t 3;obtain⟨M,N⟩:=a28 o;have s1:=Nu (t:=t);have s2:=Nw (t:=t) (by omega);have s3:=Ny (t:=t) (by omega);have x:=fun (u:World) (h:PgR u b (lf1 t))=>ow (n:=hd t 1) h (by omega)
 have y:=fun (u:World) (h:PgR u b (lf2 t))=>ow (n:=hd t 2) h (by omega)
 have z:=fun (u:World) (h:PgR u b (lf3 t))=>ow (n:=hd t 3) h (by omega)
 rw[<- N]at z;rw[M];rw[show (lf1 t).extract (hd t 1) (lf1 t).size=lf2 t from rfl]at x;rw[show (lf2 t).extract (hd t 2) (lf2 t).size=lf3 t from rfl]at y;rw[show t.extract 4 t.size=lf1 t from rfl]at s;have q1:((lf1 t).extract 0 (hd t 1)).size=hd t 1:=fh _ (by omega);have q0:(p.extract 0 (hd t 0)).size=hd t 0:=fh _ hn;have a1:(hd t 0:Int)<=(p.size:Int):=by omega
 unfold rwV;simp only;clear o M N s1 s2 s3;generalize (lf1 t).extract 0 (hd t 1)=kx at *;generalize (lf2 t).extract 0 (hd t 2)=tx at *;generalize (lf3 t).extract 0 (hd t 3)=vx at *;generalize hd t 0=n0 at *;generalize hd t 1=k1 at *;generalize hd t 2=T at *;generalize hd t 3=U at *;generalize lf1 t=t1 at *;generalize lf2 t=t2 at *;generalize lf3 t=t3 at *;generalize t.extract 0 4=hx at *;generalize kp t=tz at *;go_enter func173,ntmps173;go_wp2_with fail;refine s.mono ?_;rintro e V ⟨rfl,P,A⟩;have H:Hid (Calls _ _ _ _ _):=x _ P.drew;have W:Hid _:=y;have X:Hid _:=z;have G:Hid (World.grownBy _ _ _):=A;have L:un V w.heap.size:=(A.block w.heap.size (by simp) (fun e=>by cases e;omega)).trans (heap_alloc_new w _);have F:=hZ L;clear s x C P y z L A;go_wp2_with fail;have a0:¬ 9223372036854775807<n0+k1:=by omega
 have v1:IntKind.i64.wrap (k1:Int)=(k1:Int):=by rw[IntKind.wrap_i64];omega
 have v2:IntKind.i64.wrap (T:Int)=(T:Int):=by rw[IntKind.wrap_i64];omega
 have v3:IntKind.i64.wrap (U:Int)=(U:Int):=by rw[IntKind.wrap_i64];omega
 have Y:some w.heap.size≠some b:=fun e=>by cases e;omega
 clear Y;go_region_law (first
  | (go_simp;go_at_call 172;refine H.out.mono ?_;clear H;rintro e D ⟨rfl,q,R⟩;have I:Hid (Calls _ _ _ _ _):=W.out _ q;have k:Hid (PgR D b t2/\V.drew.grownBy D (some b)):=⟨q,R⟩;clear q R)
  | (go_simp;go_at_call 172;refine I.out.mono ?_;clear I;rintro e E ⟨rfl,r,S⟩;have J:Hid (Calls _ _ _ _ _):=X.out _ r;have l:Hid (PgR E b t3/\D.grownBy E (some b)):=⟨r,S⟩;clear r S)
  | (go_simp;go_at_call 172;refine J.out.mono ?_;clear J;rintro e a ⟨rfl,Q,B⟩;have m:Hid (PgR a b tz/\E.grownBy a (some b)):=⟨Q,B⟩;have g:un a w.heap.size:=Y1 K F.out k.out.2 l.out.2 B;have z0:=cell_of_row _ _ 0 _ _ _ g;have z1:=cell_of_row _ _ 1 _ _ _ g;have z2:=cell_of_row _ _ 2 _ _ _ g;have fz:∀ j,a.frozen? ⟨w.heap.size,j,none⟩=false:=g.frozen;have lz:=g.lt;clear g Q B))
 all_goals
  have O:Hid (w.grownBy a (some b)):=(((se G.out K).trans (An k.out.2)).trans l.out.2).trans m.out.2;have PZ:Hid (∀ c d f,PgR (((a.setCell ⟨w.heap.size,0,none⟩ c).setCell ⟨w.heap.size,1,none⟩ d).setCell ⟨w.heap.size,2,none⟩ f) b tz):=fun c d f=>(Fd a w.heap.size b c d f (by omega)).trans m.out.1
  have Z:Hid (∀ c d f,w.grownBy (((a.setCell ⟨w.heap.size,0,none⟩ c).setCell ⟨w.heap.size,1,none⟩ d).setCell ⟨w.heap.size,2,none⟩ f) (some b)):=fun c d f=>Vb O.out bR
  clear G k l m F O;go_wp2;refine bodyPost_ret (v:=.agg #[.string (p.extract 0 n0++kx),.string tx,.string vx]) ?_ rfl ⟨rfl,PZ.out _ _ _,Z.out _ _ _⟩;rw[av rfl];go_simp
def f7 (w:World) (ty:TypeId) (pv:Value):Prop:=w.cell? ⟨6,0,none⟩=some (.iface ty pv)
theorem f7.lt {w:World} {ty:TypeId} {pv:Value}(h:f7 w ty pv):6<w.heap.size:=ag h
theorem f7.grown {w w':World} {b:Nat} {ty:TypeId} {pv:Value}(h:f7 w ty pv) (c:w.grownBy w' (some b)) (f:6<b):f7 w' ty pv :=
 (World.cell?_of_block (a:=⟨6,0,none⟩) (c.block _ h.lt (fun e=>by have d:6=b:=Option.some.inj e;omega))).trans h
theorem f7.alloc {w:World} {ty:TypeId} {pv:Value}(h:f7 w ty pv) (o:Obj):f7 (w.alloc o) ty pv :=
 (World.cell?_of_block (a:=⟨6,0,none⟩) (Below.heap_alloc w o _ h.lt)).trans h
theorem f7.drew {w:World} {ty:TypeId} {pv:Value}(h:f7 w ty pv):f7 w.drew ty pv:=h
theorem Pm {w:World} {b n:Nat} {t:ByteArray} {ty:TypeId} {pv:Value}(c:f7 w ty pv) (a:PgR w b t) (d:t.size<n) :
  Calls prog 172 #[.pointer (some ⟨b,0,none⟩),.int .i64 (n:Int)] w fun e w'=>e=.panicked [{ v:=.iface ty pv,recovered:=false }]/\w.grownBy w' (some b) :=
 (aq8 c a d).mono fun e w' ⟨h1,h2⟩=>⟨h1,by rw[h2];exact World.grownBy.refl _ _⟩
theorem Xi {w:World} {b:Nat} {t p:ByteArray} {ty:TypeId} {pv:Value}(L:f7 w ty pv) (l:6<b) (y:PgR w b t) (o:o6 p t=false) (_hp:p.size<=1048576) (a0:t.size<=1048576) :
  Calls prog 173 #[.pointer (some ⟨b,0,none⟩),.string p] w fun e w'=>e=.panicked [{ v:=.iface ty pv,recovered:=false }]/\w.grownBy w' (some b):=by
 have C:=y.lt;by_cases x:4<=t.size
 .have g:Calls prog 172 #[.pointer (some ⟨b,0,none⟩),.int .i64 4] _ _:=ow (n:=4) (y.alloc (.cells #[.string ⟨#[]⟩,.string ⟨#[]⟩,.string ⟨#[]⟩] 37)) x
  have E:=L.alloc (.cells #[.string ⟨#[]⟩,.string ⟨#[]⟩,.string ⟨#[]⟩] 37);have x0:∀ u:World,(Instr.index 9 (.string (t.extract 0 4)) (.int .i64 0)).run prog u=.ok (.int .u8 (hd t 0:Int)) u:=oi x 0 (by omega)
  have x1:∀ u:World,(Instr.index 9 (.string (t.extract 0 4)) (.int .i64 1)).run prog u=.ok (.int .u8 (hd t 1:Int)) u:=oi x 1 (by omega)
  have x2:∀ u:World,(Instr.index 9 (.string (t.extract 0 4)) (.int .i64 2)).run prog u=.ok (.int .u8 (hd t 2:Int)) u:=oi x 2 (by omega)
  have x3:∀ u:World,(Instr.index 9 (.string (t.extract 0 4)) (.int .i64 3)).run prog u=.ok (.int .u8 (hd t 3:Int)) u:=oi x 3 (by omega)
  have l0:=jc t 0;have l1:=jc t 1;have l2:=jc t 2;have l3:=jc t 3;rw[show t.extract 4 t.size=lf1 t from rfl]at g;by_cases M:hd t 0<=p.size
  .have s1:=Nu (t:=t)
   have U:(hd t 0:Int)<=(p.size:Int):=by omega
   have q0:(p.extract 0 (hd t 0)).size=hd t 0:=fh _ M;have s:=fun (u:World) (N:ByteArray) (m:Nat) (r:f7 u ty pv) (h:PgR u b N) (hm:N.size<m)=>Pm (n:=m) r h hm
   by_cases Y:4+hd t 1<=t.size
   .have s2:=Nw (t:=t) Y
    have D:=fun (u:World) (h:PgR u b (lf1 t))=>ow (n:=hd t 1) h (by omega)
    rw[show (lf1 t).extract (hd t 1) (lf1 t).size=lf2 t from rfl]at D;have q1:((lf1 t).extract 0 (hd t 1)).size=hd t 1:=fh _ (by omega);by_cases Z:4+hd t 1+hd t 2<=t.size
    .have s3:=Ny (t:=t) Z
     have hC:¬ 4+hd t 1+hd t 2+hd t 3<=t.size:=fun h=>by
      unfold o6 at o;rw[decide_eq_true x,decide_eq_true M,decide_eq_true h]at o
      cases o
     have J:=fun (u:World) (h:PgR u b (lf2 t))=>ow (n:=hd t 2) h (by omega)
     rw[show (lf2 t).extract (hd t 2) (lf2 t).size=lf3 t from rfl]at J;have k:=fun (u:World) (r:f7 u ty pv) (h:PgR u b (lf3 t))=>s u (lf3 t) (hd t 3) r h (by omega)
     generalize (lf1 t).extract 0 (hd t 1)=kx at *;generalize (lf2 t).extract 0 (hd t 2)=tx at *;generalize hd t 0=f at *;generalize hd t 1=k1 at *;generalize hd t 2=c at *;generalize hd t 3=d at *;generalize lf1 t=t1 at *;generalize lf2 t=t2 at *;generalize lf3 t=t3 at *;generalize t.extract 0 4=hx at *;go_enter func173,ntmps173;go_wp2_with fail;refine g.mono ?_;rintro e z ⟨rfl,j,a⟩;have H:Hid (Calls _ _ _ _ _):=D _ j.drew;have G:=hZ (E.grown a l);have A:Hid (World.grownBy _ _ _):=se a C;have B:Hid _:=k;have S:Hid _:=J;clear g k s D y j a o J;go_wp2_with fail;have O:IntKind.i64.wrap (k1:Int)=(k1:Int):=by rw[IntKind.wrap_i64];omega
     have P:IntKind.i64.wrap (c:Int)=(c:Int):=by rw[IntKind.wrap_i64];omega
     have Q:IntKind.i64.wrap (d:Int)=(d:Int):=by rw[IntKind.wrap_i64];omega
     have T:¬ 9223372036854775807<f+k1:=by omega
     refine wp_region_any (by kernel_rfl) ?_;refine wpAny_take (i:=0) (v:=.string p) rfl (by kernel_rfl) (by kernel_rfl) (by kernel_rfl) (fun _ _ _ h=>h) (Or.inl ⟨by rfl,fun u=>(by go_simp)⟩) ?_;refine wpAny_take (i:=1) (v:=.int .i64 (f:Int)) rfl (by kernel_rfl) (by kernel_rfl) (by kernel_rfl) (fun _ _ _ h=>h) (Or.inl ⟨by rfl,fun u=>(by go_simp)⟩) ?_;refine wpAny_take (i:=2) (v:=.string (p.extract 0 f)) rfl (by kernel_rfl) (by kernel_rfl) (by kernel_rfl) (fun _ _ _ h=>h) (Or.inl ⟨by rfl,fun u=>(by go_simp)⟩) ?_;refine wpAny_take (i:=3) (v:=.pointer (some ⟨b,0,none⟩)) rfl (by kernel_rfl) (by kernel_rfl) (by kernel_rfl) (fun _ _ _ h=>h) (Or.inl ⟨by rfl,fun u=>(by go_simp)⟩) ?_;refine wpAny_take (i:=4) (v:=.string hx) rfl (by kernel_rfl) (by kernel_rfl) (by kernel_rfl) (fun _ _ _ h=>h) (Or.inl ⟨by rfl,fun u=>(by go_simp)⟩) ?_
     refine wpAny_take (i:=5) (v:=.int .u8 (k1:Int)) rfl (by kernel_rfl) (by kernel_rfl) (by kernel_rfl) (fun _ _ _ h=>h) (Or.inl ⟨by rfl,fun u=>(by go_simp)⟩) ?_;refine wpAny_take (i:=6) (v:=.int .i64 (k1:Int)) rfl (by kernel_rfl) (by kernel_rfl) (by kernel_rfl) (fun _ _ _ h=>h) (Or.inl ⟨by rfl,fun u=>(by go_simp)⟩) ?_;refine wpAny_take (i:=9) (v:=.pointer (some ⟨b,0,none⟩)) rfl (by kernel_rfl) (by kernel_rfl) (by kernel_rfl) (fun _ _ _ h=>h) (Or.inl ⟨by rfl,fun u=>(by go_simp)⟩) ?_;refine wpAny_take (i:=10) (v:=.string hx) rfl (by kernel_rfl) (by kernel_rfl) (by kernel_rfl) (fun _ _ _ h=>h) (Or.inl ⟨by rfl,fun u=>(by go_simp)⟩) ?_;refine wpAny_take (i:=11) (v:=.int .u8 (c:Int)) rfl (by kernel_rfl) (by kernel_rfl) (by kernel_rfl) (fun _ _ _ h=>h) (Or.inl ⟨by rfl,fun u=>(by go_simp)⟩) ?_
     refine wpAny_take (i:=12) (v:=.int .i64 (c:Int)) rfl (by kernel_rfl) (by kernel_rfl) (by kernel_rfl) (fun _ _ _ h=>h) (Or.inl ⟨by rfl,fun u=>(by go_simp)⟩) ?_;refine wpAny_take (i:=14) (v:=.pointer (some ⟨b,0,none⟩)) rfl (by kernel_rfl) (by kernel_rfl) (by kernel_rfl) (fun _ _ _ h=>h) (Or.inl ⟨by rfl,fun u=>(by go_simp)⟩) ?_;refine wpAny_take (i:=15) (v:=.string hx) rfl (by kernel_rfl) (by kernel_rfl) (by kernel_rfl) (fun _ _ _ h=>h) (Or.inl ⟨by rfl,fun u=>(by go_simp)⟩) ?_;refine wpAny_take (i:=16) (v:=.int .u8 (d:Int)) rfl (by kernel_rfl) (by kernel_rfl) (by kernel_rfl) (fun _ _ _ h=>h) (Or.inl ⟨by rfl,fun u=>(by go_simp)⟩) ?_;refine wpAny_take (i:=17) (v:=.int .i64 (d:Int)) rfl (by kernel_rfl) (by kernel_rfl) (by kernel_rfl) (fun _ _ _ h=>h) (Or.inl ⟨by rfl,fun u=>(by go_simp)⟩) ?_;refine wpAny_ready (rs:=[7]) (by kernel_rfl) (by simp) ?_
     refine AllReady.cons rfl (fun K hK=>?_) AllReady.nil;go_simp;go_at_call 172
     refine H.out.mono ?_;rintro e R ⟨rfl,I,q⟩;refine hK _ _ ?_;clear hK;refine wpAny_take (i:=8) (v:=.string (p.extract 0 f++kx)) rfl (by kernel_rfl) (by kernel_rfl) (by kernel_rfl) (fun _ _ _ h=>h) (Or.inl ⟨by rfl,fun u=>(by go_simp)⟩) ?_;refine wpAny_ready (rs:=[13]) (by kernel_rfl) (by simp) ?_;refine AllReady.cons rfl (fun K hK=>?_) AllReady.nil;go_simp;go_at_call 172
     refine (S.out _ I).mono ?_;rintro e w3 ⟨rfl,W,F⟩;refine hK _ _ ?_;clear hK;refine wpAny_ready (rs:=[18]) (by kernel_rfl) (by simp) ?_;refine AllReady.cons rfl (fun K hK=>?_) AllReady.nil;go_simp;go_at_call 172
     refine (B.out _ (((G.out.drew).grown q l).grown F l) W).mono ?_;rintro e w4 ⟨rfl,X⟩;exact⟨rfl,rfl,((A.out.trans (An q)).trans F).trans X⟩
    .have k:=fun (u:World) (r:f7 u ty pv) (h:PgR u b (lf2 t))=>s u (lf2 t) (hd t 2) r h (by omega)
     generalize (lf1 t).extract 0 (hd t 1)=kx at *;generalize hd t 0=f at *;generalize hd t 1=k1 at *;generalize hd t 2=c at *;generalize hd t 3=d at *;generalize lf1 t=t1 at *;generalize lf2 t=t2 at *;generalize t.extract 0 4=hx at *;go_enter func173,ntmps173;go_wp2_with fail;refine g.mono ?_;rintro e z ⟨rfl,j,a⟩;have H:Hid (Calls _ _ _ _ _):=D _ j.drew;have G:=hZ (E.grown a l);have A:Hid (World.grownBy _ _ _):=se a C;have B:Hid _:=k;clear g k s D y j a o;go_wp2_with fail;have O:IntKind.i64.wrap (k1:Int)=(k1:Int):=by rw[IntKind.wrap_i64];omega
     have P:IntKind.i64.wrap (c:Int)=(c:Int):=by rw[IntKind.wrap_i64];omega
     have Q:IntKind.i64.wrap (d:Int)=(d:Int):=by rw[IntKind.wrap_i64];omega
     have T:¬ 9223372036854775807<f+k1:=by omega
     refine wp_region_any (by kernel_rfl) ?_;refine wpAny_take (i:=0) (v:=.string p) rfl (by kernel_rfl) (by kernel_rfl) (by kernel_rfl) (fun _ _ _ h=>h) (Or.inl ⟨by rfl,fun u=>(by go_simp)⟩) ?_;refine wpAny_take (i:=1) (v:=.int .i64 (f:Int)) rfl (by kernel_rfl) (by kernel_rfl) (by kernel_rfl) (fun _ _ _ h=>h) (Or.inl ⟨by rfl,fun u=>(by go_simp)⟩) ?_;refine wpAny_take (i:=2) (v:=.string (p.extract 0 f)) rfl (by kernel_rfl) (by kernel_rfl) (by kernel_rfl) (fun _ _ _ h=>h) (Or.inl ⟨by rfl,fun u=>(by go_simp)⟩) ?_;refine wpAny_take (i:=3) (v:=.pointer (some ⟨b,0,none⟩)) rfl (by kernel_rfl) (by kernel_rfl) (by kernel_rfl) (fun _ _ _ h=>h) (Or.inl ⟨by rfl,fun u=>(by go_simp)⟩) ?_;refine wpAny_take (i:=4) (v:=.string hx) rfl (by kernel_rfl) (by kernel_rfl) (by kernel_rfl) (fun _ _ _ h=>h) (Or.inl ⟨by rfl,fun u=>(by go_simp)⟩) ?_
     refine wpAny_take (i:=5) (v:=.int .u8 (k1:Int)) rfl (by kernel_rfl) (by kernel_rfl) (by kernel_rfl) (fun _ _ _ h=>h) (Or.inl ⟨by rfl,fun u=>(by go_simp)⟩) ?_;refine wpAny_take (i:=6) (v:=.int .i64 (k1:Int)) rfl (by kernel_rfl) (by kernel_rfl) (by kernel_rfl) (fun _ _ _ h=>h) (Or.inl ⟨by rfl,fun u=>(by go_simp)⟩) ?_;refine wpAny_take (i:=9) (v:=.pointer (some ⟨b,0,none⟩)) rfl (by kernel_rfl) (by kernel_rfl) (by kernel_rfl) (fun _ _ _ h=>h) (Or.inl ⟨by rfl,fun u=>(by go_simp)⟩) ?_;refine wpAny_take (i:=10) (v:=.string hx) rfl (by kernel_rfl) (by kernel_rfl) (by kernel_rfl) (fun _ _ _ h=>h) (Or.inl ⟨by rfl,fun u=>(by go_simp)⟩) ?_;refine wpAny_take (i:=11) (v:=.int .u8 (c:Int)) rfl (by kernel_rfl) (by kernel_rfl) (by kernel_rfl) (fun _ _ _ h=>h) (Or.inl ⟨by rfl,fun u=>(by go_simp)⟩) ?_
     refine wpAny_take (i:=12) (v:=.int .i64 (c:Int)) rfl (by kernel_rfl) (by kernel_rfl) (by kernel_rfl) (fun _ _ _ h=>h) (Or.inl ⟨by rfl,fun u=>(by go_simp)⟩) ?_;refine wpAny_take (i:=14) (v:=.pointer (some ⟨b,0,none⟩)) rfl (by kernel_rfl) (by kernel_rfl) (by kernel_rfl) (fun _ _ _ h=>h) (Or.inl ⟨by rfl,fun u=>(by go_simp)⟩) ?_;refine wpAny_take (i:=15) (v:=.string hx) rfl (by kernel_rfl) (by kernel_rfl) (by kernel_rfl) (fun _ _ _ h=>h) (Or.inl ⟨by rfl,fun u=>(by go_simp)⟩) ?_;refine wpAny_take (i:=16) (v:=.int .u8 (d:Int)) rfl (by kernel_rfl) (by kernel_rfl) (by kernel_rfl) (fun _ _ _ h=>h) (Or.inl ⟨by rfl,fun u=>(by go_simp)⟩) ?_;refine wpAny_take (i:=17) (v:=.int .i64 (d:Int)) rfl (by kernel_rfl) (by kernel_rfl) (by kernel_rfl) (fun _ _ _ h=>h) (Or.inl ⟨by rfl,fun u=>(by go_simp)⟩) ?_;refine wpAny_ready (rs:=[7]) (by kernel_rfl) (by simp) ?_
     refine AllReady.cons rfl (fun K hK=>?_) AllReady.nil;go_simp;go_at_call 172
     refine H.out.mono ?_;rintro e R ⟨rfl,I,q⟩;refine hK _ _ ?_;clear hK;refine wpAny_take (i:=8) (v:=.string (p.extract 0 f++kx)) rfl (by kernel_rfl) (by kernel_rfl) (by kernel_rfl) (fun _ _ _ h=>h) (Or.inl ⟨by rfl,fun u=>(by go_simp)⟩) ?_;refine wpAny_ready (rs:=[13]) (by kernel_rfl) (by simp) ?_;refine AllReady.cons rfl (fun K hK=>?_) AllReady.nil;go_simp;go_at_call 172
     refine (B.out _ ((G.out.drew).grown q l) I).mono ?_;rintro e w3 ⟨rfl,F⟩;exact⟨rfl,rfl,(A.out.trans (An q)).trans F⟩
   .have k:=fun (u:World) (r:f7 u ty pv) (h:PgR u b (lf1 t))=>s u (lf1 t) (hd t 1) r h (by omega)
    generalize hd t 0=f at *;generalize hd t 1=k1 at *;generalize hd t 2=c at *;generalize hd t 3=d at *;generalize lf1 t=t1 at *;generalize t.extract 0 4=hx at *;go_enter func173,ntmps173;go_wp2_with fail;refine g.mono ?_;rintro e z ⟨rfl,j,a⟩;have B:Hid (Calls _ _ _ _ _):=k _ (E.grown a l).drew j.drew;have A:Hid (World.grownBy _ _ _):=se a C;clear g k s y j a o;go_wp2_with fail;have O:IntKind.i64.wrap (k1:Int)=(k1:Int):=by rw[IntKind.wrap_i64];omega
    have P:IntKind.i64.wrap (c:Int)=(c:Int):=by rw[IntKind.wrap_i64];omega
    have Q:IntKind.i64.wrap (d:Int)=(d:Int):=by rw[IntKind.wrap_i64];omega
    refine wp_region_any (by kernel_rfl) ?_;refine wpAny_take (i:=0) (v:=.string p) rfl (by kernel_rfl) (by kernel_rfl) (by kernel_rfl) (fun _ _ _ h=>h) (Or.inl ⟨by rfl,fun u=>(by go_simp)⟩) ?_;refine wpAny_take (i:=1) (v:=.int .i64 (f:Int)) rfl (by kernel_rfl) (by kernel_rfl) (by kernel_rfl) (fun _ _ _ h=>h) (Or.inl ⟨by rfl,fun u=>(by go_simp)⟩) ?_;refine wpAny_take (i:=2) (v:=.string (p.extract 0 f)) rfl (by kernel_rfl) (by kernel_rfl) (by kernel_rfl) (fun _ _ _ h=>h) (Or.inl ⟨by rfl,fun u=>(by go_simp)⟩) ?_;refine wpAny_take (i:=3) (v:=.pointer (some ⟨b,0,none⟩)) rfl (by kernel_rfl) (by kernel_rfl) (by kernel_rfl) (fun _ _ _ h=>h) (Or.inl ⟨by rfl,fun u=>(by go_simp)⟩) ?_;refine wpAny_take (i:=4) (v:=.string hx) rfl (by kernel_rfl) (by kernel_rfl) (by kernel_rfl) (fun _ _ _ h=>h) (Or.inl ⟨by rfl,fun u=>(by go_simp)⟩) ?_
    refine wpAny_take (i:=5) (v:=.int .u8 (k1:Int)) rfl (by kernel_rfl) (by kernel_rfl) (by kernel_rfl) (fun _ _ _ h=>h) (Or.inl ⟨by rfl,fun u=>(by go_simp)⟩) ?_;refine wpAny_take (i:=6) (v:=.int .i64 (k1:Int)) rfl (by kernel_rfl) (by kernel_rfl) (by kernel_rfl) (fun _ _ _ h=>h) (Or.inl ⟨by rfl,fun u=>(by go_simp)⟩) ?_;refine wpAny_take (i:=9) (v:=.pointer (some ⟨b,0,none⟩)) rfl (by kernel_rfl) (by kernel_rfl) (by kernel_rfl) (fun _ _ _ h=>h) (Or.inl ⟨by rfl,fun u=>(by go_simp)⟩) ?_;refine wpAny_take (i:=10) (v:=.string hx) rfl (by kernel_rfl) (by kernel_rfl) (by kernel_rfl) (fun _ _ _ h=>h) (Or.inl ⟨by rfl,fun u=>(by go_simp)⟩) ?_;refine wpAny_take (i:=11) (v:=.int .u8 (c:Int)) rfl (by kernel_rfl) (by kernel_rfl) (by kernel_rfl) (fun _ _ _ h=>h) (Or.inl ⟨by rfl,fun u=>(by go_simp)⟩) ?_
    refine wpAny_take (i:=12) (v:=.int .i64 (c:Int)) rfl (by kernel_rfl) (by kernel_rfl) (by kernel_rfl) (fun _ _ _ h=>h) (Or.inl ⟨by rfl,fun u=>(by go_simp)⟩) ?_;refine wpAny_take (i:=14) (v:=.pointer (some ⟨b,0,none⟩)) rfl (by kernel_rfl) (by kernel_rfl) (by kernel_rfl) (fun _ _ _ h=>h) (Or.inl ⟨by rfl,fun u=>(by go_simp)⟩) ?_;refine wpAny_take (i:=15) (v:=.string hx) rfl (by kernel_rfl) (by kernel_rfl) (by kernel_rfl) (fun _ _ _ h=>h) (Or.inl ⟨by rfl,fun u=>(by go_simp)⟩) ?_;refine wpAny_take (i:=16) (v:=.int .u8 (d:Int)) rfl (by kernel_rfl) (by kernel_rfl) (by kernel_rfl) (fun _ _ _ h=>h) (Or.inl ⟨by rfl,fun u=>(by go_simp)⟩) ?_;refine wpAny_take (i:=17) (v:=.int .i64 (d:Int)) rfl (by kernel_rfl) (by kernel_rfl) (by kernel_rfl) (fun _ _ _ h=>h) (Or.inl ⟨by rfl,fun u=>(by go_simp)⟩) ?_;refine wpAny_ready (rs:=[7]) (by kernel_rfl) (by simp) ?_
    refine AllReady.cons rfl (fun K hK=>?_) AllReady.nil;go_simp;go_at_call 172
    refine B.out.mono ?_;rintro e R ⟨rfl,q⟩;exact⟨rfl,rfl,A.out.trans (An q)⟩
  .have U:¬ (hd t 0:Int)<=(p.size:Int):=by omega
   generalize hd t 0=f at *;clear x1 x2 x3 o;go_enter func173,ntmps173;go_wp2_with fail;refine g.mono ?_;rintro e z ⟨rfl,j,a⟩;have c1:z.cell? ⟨6,0,none⟩=some (.iface ty pv):=E.grown a l;have V:Hid (w.grownBy z (some b)):=se a C;clear g j a;go_wp2;exact⟨rfl,rfl,V.out⟩
 .have g:Calls prog 172 #[.pointer (some ⟨b,0,none⟩),.int .i64 4] _ _:=Pm (n:=4) (L.alloc (.cells #[.string ⟨#[]⟩,.string ⟨#[]⟩,.string ⟨#[]⟩] 37)) (y.alloc (.cells #[.string ⟨#[]⟩,.string ⟨#[]⟩,.string ⟨#[]⟩] 37)) (by omega)
  go_enter func173,ntmps173;go_wp2_with fail;refine g.mono ?_;rintro e z ⟨rfl,a⟩;exact⟨rfl,rfl,se a C⟩
theorem Py (n:Nat):(Builtin.zeroCells #[.string ⟨#[]⟩,.string ⟨#[]⟩,.string ⟨#[]⟩] n).size=n*3:=by simp[Builtin.zeroCells]
theorem Hj (w:World) (n:Nat) (i:n<=1048576) :
  Calls prog 122 #[.slice none 0 0,.int .i64 n] w fun e w'=>∃ v,e=.returned v/\Rws w' w.heap.size v []/\Below w.heap.size w w':=by
 by_cases d:0<n
 .obtain⟨g,f,c,a,b⟩:=info_parts Ft
  have h:(0:Int)<(n:Int):=by omega
  go_enter func122,ntmps122;go_wp2_with (at_builtin;refine Go.Lib.wpList_append_run _ rfl _ _ 32 3 rfl _ _ rfl rfl _ _ (Go.Lib.run_append_nil_zeros _ 32 3 _ 37 g (.agg #[.string ⟨#[]⟩,.string ⟨#[]⟩,.string ⟨#[]⟩]) .i64 .i64 underlying32 underlying3 f c n d (by rw[a];decide) (by omega) (by rw[b];omega)) ?_)
  go_ret;refine⟨_,rfl,⟨rfl,.inr ⟨w.heap.size,_,_,rfl,bR,heap_alloc_new _ _,Nat.zero_le _,grownCap_le_maxLen w n 0 _ (by unfold maxLen;omega),?_,rfl⟩⟩,(bY _).drew⟩;have:=grownCap_ge w n 0 37;rw[Array.size_append,Py,Py];omega
 .obtain rfl:n=0:=by omega
  go_enter func122,ntmps122;go_wp2;go_ret;exact⟨_,rfl,⟨rfl,.inl ⟨rfl,rfl⟩⟩,bX⟩
theorem Qb (w:World) (d:Nat) (B C:Value) (l1 c:List Rw) (o:w.heap[d]? = some (.cells #[B,C] 32)) (L:l1.length<=4000) (M:c.length<=4000) (t:SlV w B l1) (x:SlV w C c) :
  Calls prog 86 #[.slice (some ⟨d,0,none⟩) 2 2] w fun e w'=>∃ v,e=.returned v/\Rws w' w.heap.size v (l1++c)/\Below w.heap.size w w':=by
 have z:=cell_of_row _ _ 0 _ _ _ o;have q1:=cell_of_row _ _ 1 _ _ _ o;have m:d<w.heap.size:=(Array.getElem?_eq_some_iff.1 o).1;have D:=hZ t;have E:=hZ x;obtain⟨F,I,rfl,_⟩:=t;obtain⟨H,J,rfl,_⟩:=x;have G:=fun u=>Hj u (l1.length+c.length) (by omega)
 rw[show ((l1.length+c.length:Nat):Int)=(l1.length:Int)+(c.length:Int) by omega]at G;clear o;go_enter func86,ntmps86;go_wp2;go_loop [3,11] (fun s i=>(s=.int .i64 0/\i=.int .i64 0)\/(s=.int .i64 (l1.length:Int)/\i=.int .i64 1)\/(s=.int .i64 ((l1.length:Int)+(c.length:Int))/\i=.int .i64 2)) (fun _ i=>2-(intOf i).toNat)
 case atStart=>exact .inl ⟨rfl,rfl⟩
 case round =>
  rcases hrel with ⟨rfl,rfl⟩|⟨rfl,rfl⟩|⟨rfl,rfl⟩
  .go_wp2
   exact⟨.inr (.inl ⟨by go_num,rfl⟩),by simp[intOf]⟩
  .go_wp2
   exact⟨.inr (.inr ⟨by go_num,rfl⟩),by simp[intOf]⟩
  .go_wp2_with fail
   refine (G _).mono ?_;rintro e A ⟨N,rfl,y,n⟩;clear G;have q:A.cell? ⟨d,0,none⟩=_:=(n.cell m).trans z;have r:A.cell? ⟨d,1,none⟩=_:=(n.cell m).trans q1;go_wp2_with fail;go_loopw [6,27] (fun v i wr=>(i=.int .i64 0/\Rws wr w.heap.size v []/\Below w.heap.size w wr)\/(i=.int .i64 1/\Rws wr w.heap.size v l1/\Below w.heap.size w wr)\/(i=.int .i64 2/\Rws wr w.heap.size v (l1++c)/\Below w.heap.size w wr)) (fun _ i _=>2-(intOf i).toNat)
   case atStart=>exact .inl ⟨rfl,y,n⟩
   case round =>
    clear y n q r;rcases hrel with ⟨rfl,b,a⟩|⟨rfl,b,a⟩|⟨rfl,b,a⟩
    .have q:wr.cell? ⟨d,0,none⟩=_:=(a.cell m).trans z
     have p:=a.size;go_wp2_with (at_builtin;refine ef rfl _ _ rfl w.heap.size _ (.slice F l1.length I) [] l1 rfl rfl b (D.out.below a bR) (by simp;omega) p ?_)
     intro K w3 g f;have l:Below w.heap.size w w3:=Below.grown a f a.size (fun j hj=>(World.ownsRow.lt b j hj).1);have k:=hZ g;have h:Hid _:=l;clear g f l b a q;go_wp2;exact⟨.inr (.inl ⟨rfl,k.out,h.out⟩),by simp[intOf]⟩
    .have r:wr.cell? ⟨d,1,none⟩=_:=(a.cell m).trans q1
     have p:=a.size;go_wp2_with (at_builtin;refine ef rfl _ _ rfl w.heap.size _ (.slice H c.length J) l1 c rfl rfl b (E.out.below a bR) (by omega) p ?_)
     intro K w3 g f;have l:Below w.heap.size w w3:=Below.grown a f a.size (fun j hj=>(World.ownsRow.lt b j hj).1);have k:=hZ g;have h:Hid _:=l;clear g f l b a r;go_wp2;exact⟨.inr (.inr ⟨rfl,k.out,h.out⟩),by simp[intOf]⟩
    .have k:Hid (Rws _ _ _ _):=b
     have h:Hid _:=a;clear b a;go_wp2;go_ret;exact⟨_,rfl,k.out,h.out⟩
theorem a85 {l:List Rw} {gs:List (List Rw)}(d:dm l=true) (c:gs.flatten=l) (e:∀ p ∈ gs,ko p=true):uk gs:=by
 refine al9 (fun g hgm=>?_) (by rw[c];exact wo (p9 d));have:=e g hgm;unfold ko at this;simp only[Bool.and_eq_true,decide_eq_true_eq]at this;obtain⟨⟨b,a⟩,_⟩:=this;refine⟨(oh.1 a).1,?_,(oh.1 a).2.1⟩
 cases g with
 | nil=>simp at b
 | cons x g=>simp
theorem ad4 {g:List Rw}(h:ko g=true):lnP g<=300/\0<g.length/\dm g=true:=by
 unfold ko at h;simp only[Bool.and_eq_true,decide_eq_true_eq]at h;refine⟨h.2,?_,h.1.2⟩
 cases g with
 | nil=>simp at h
 | cons x g=>simp

end Go.Proofs.YtjbmgghehdemdaaGreatDoor
