/- PBk6 -/
import Derived.Test.YtjbmgghehdemdaaGreatDoorMS12
import Derived.OwnWalk
import Derived.Deep.RegionLaw
import Derived.Deep.MidRow
import Derived.Lib.AppendZeros
import Derived.Laws.BytesString
import Derived.Lib.AppendStr
import Derived.Shelf.Pu.Clone
namespace Go.Proofs.YtjbmgghehdemdaaGreatDoor
set_option maxRecDepth 100000
set_option maxHeartbeats 16000000
open _root_.Go.Proofs.Tryz
structure wq (gs:List (List Rw)):Prop where
 good:∀ g ∈ gs,da g=true/\0<g.length
 rise:∀ (i:Nat) (a b:List Rw),gs[i]? = some a->gs[i+1]? = some b->ltK (np a) (rd b)=true
theorem aa1 {s:ByteArray}(h:dj s=0):lnP (am s)<=300:=by
 unfold dj at h;unfold am
 cases h1:mu s
 .rw[h1]at h;simp at h
 cases h2:mn s
 .rw[h1,h2]at h;simp at h
 rw[h1,h2]at h;simp only[if_true,Bool.and_self]at h ⊢
 cases h3:fu s with
 | none=>rw[h3]at h;simp at h
 | some l =>
  unfold fu at h3;split at h3
  .cases h3
  .rename_i l' _
   split at h3
   .rename_i hp
    obtain rfl:=Option.some.inj h3;unfold li at hp;rw[Bool.and_eq_true,decide_eq_true_eq]at hp;unfold mu at h1;rw[Bool.and_eq_true,decide_eq_true_eq,decide_eq_true_eq]at h1;show lnP l'<=300
    have:(byT (fi l')).size=lnP l':=rg _;rw[hp.2]at this;omega
   .cases h3
theorem Nw:∀ (ss:List ByteArray) (acc gs:List (List Rw)),bkF acc ss=some gs->wq acc->(∀ g ∈ acc,lnP g<=300)->wq gs/\∀ g ∈ gs,lnP g<=300
 | [],acc,gs,h,ha,hl=>by simp[bkF]at h;subst h;exact⟨ha,hl⟩
 | s::ss,acc,gs,h,ha,hl=>by
  unfold bkF at h;split at h
  .rename_i ho
   unfold ii at ho;rw[Bool.and_eq_true,decide_eq_true_eq]at ho;refine Nw ss _ gs h ⟨fun g d=>?_,fun i a b h1 h2=>?_⟩ (fun g d=>?_)
   .rcases List.mem_append.1 d with d|d
    .exact ha.good g d
    .simp at d
     subst d;exact⟨Y9 ho.1,xt ho.1⟩
   .by_cases c:i+1<acc.length
    .rw[List.getElem?_append_left (by omega)]at h1
     rw[List.getElem?_append_left c]at h2;exact ha.rise i a b h1 h2
    .have hi:=(List.getElem?_eq_some_iff.1 h2).1
     simp at hi;have e:acc.length=i+1:=by omega
     rw[List.getElem?_append_left (by omega)]at h1;rw[List.getElem?_append_right (by omega),e]at h2;simp at h2;subst h2;have f:acc.getLast? = some a:=by rw[List.getLast?_eq_getElem?,e];exact h1
     rw[f]at ho;exact ho.2
   .rcases List.mem_append.1 d with d|d
    .exact hl g d
    .simp at d
     subst d;exact aa1 ho.1
  .cases h
theorem xk {ss:List ByteArray} {gs:List (List Rw)}(h:bu ss=some gs):wq gs/\(∀ g ∈ gs,lnP g<=300)/\gs.length<=40:=by
 have d:=(Nz h).1;unfold bu at h;split at h
 .obtain⟨c,e⟩:=Nw ss [] gs h ⟨fun g hg=>by simp at hg,fun i a b c=>by simp at c⟩ (fun g hg=>by simp at hg)
  exact⟨c,e,d⟩
 .cases h
theorem Nv:∀ (gs acc:List (List Rw)),wq (acc++gs)->(∀ g ∈ gs,lnP g<=300)->bkF acc (gs.map pgB)=some (acc++gs)
 | [],acc,_,_=>by simp[bkF]
 | g::gs,acc,hb,hl=>by
  obtain⟨f,c⟩:=hb.good g (by simp);obtain⟨d,b⟩:=Mf c f (hl g (by simp));have i:ii acc (pgB g)=true:=by
   unfold ii;rw[d,b]
   cases h:acc.getLast? with
   | none=>rfl
   | some a =>
    have j:acc.length≠0:=fun e=>by rw[List.eq_nil_of_length_eq_zero e]at h;simp at h
    rw[List.getLast?_eq_getElem?]at h;have:=hb.rise (acc.length-1) a g (by rw[List.getElem?_append_left (by omega)];exact h) (by rw[List.getElem?_append_right (by omega),show acc.length-1+1-acc.length=0 by omega];rfl);simpa using this
  show bkF acc (pgB g::gs.map pgB)=_
  unfold bkF;rw[i,if_pos rfl,b,Nv gs (acc++[g]) (by simpa using hb) (fun x hx=>hl x (by simp[hx]))];simp
theorem Nx:∀ (gs acc:List (List Rw)),wq (acc++gs)->(∃ g ∈ gs,¬ lnP g<=300)->bkF acc (gs.map pgB)=none
 | [],_,_,h=>by obtain⟨g,a,_⟩:=h;simp at a
 | g::gs,acc,hb,h=>by
  show bkF acc (pgB g::gs.map pgB)=none
  unfold bkF;by_cases b:lnP g<=300
  .obtain⟨a,e⟩:=hb.good g (by simp)
   obtain⟨_,f⟩:=Mf e a b;split
   .rw[f]
    refine Nx gs (acc++[g]) (by simpa using hb) ?_;obtain⟨x,c,d⟩:=h;rcases List.mem_cons.1 c with rfl|c
    .exact absurd b d
    .exact⟨x,c,d⟩
   .rfl
  .rw[if_neg]
   unfold ii;rw[a95 b];simp
theorem Ve {gs:List (List Rw)}(d:wq gs):bu (gs.map pgB)=if gs.length<=40/\(∀ g ∈ gs,lnP g<=300) then some gs else none:=by
 unfold bu;rw[List.length_map];by_cases a:gs.length<=40
 .rw[if_pos a]
  by_cases b:∀ g ∈ gs,lnP g<=300
  .rw[if_pos ⟨a,b⟩]
   have:=Nv gs [] (by simpa using d) b;simpa using this
  .rw[if_neg (fun c=>b c.2)]
   refine Nx gs [] (by simpa using d) ?_;apply Classical.byContradiction
   intro e;exact b fun g hg=>Classical.byContradiction fun c=>e ⟨g,hg,c⟩
 .rw[if_neg a,if_neg (fun c=>a c.1)]
theorem ap1 {g:List Rw}(a:m6 g) (h0:0<g.length):rd g=np g\/ltK (rd g) (np g)=true:=by
 by_cases h:g.length=1
 .left
  unfold rd np;rw[h]
 .right
  exact a 0 (g.length-1) (by omega) (by omega)
theorem wq.ends {gs:List (List Rw)}(f:wq gs):∀ (d i:Nat) (a b:List Rw),gs[i]? = some a->gs[i+1+d]? = some b->ltK (np a) (np b)=true
 | 0,i,a,b,h1,h2=>by
  have g:=f.rise i a b h1 h2;obtain⟨k,j⟩:=f.good b (List.mem_of_getElem? h2);rcases ap1 (qg k) j with e|e
  .rw[<- e];exact g
  .exact ml g e
 | d+1,i,a,b,h1,h2=>by
  have l:=(List.getElem?_eq_some_iff.1 h2).1;obtain⟨c,h⟩:∃ c,gs[i+1+d]? = some c:=⟨_,List.getElem?_eq_getElem (by omega)⟩
  exact ml (f.ends d i a c h1 h) (f.ends 0 (i+1+d) c b h h2)
def PW (l:List Rw):Prop:=l.Pairwise fun a b=>ltK a.key b.key=true
theorem yi {l:List Rw}(h:m6 l):PW l:=by
 unfold PW;rw[List.pairwise_iff_getElem];intro i j c a b;have:=h i j b a;unfold dr at this;rw[List.getElem?_eq_getElem c,List.getElem?_eq_getElem a]at this;exact this
theorem yh {l:List Rw}(h:PW l):m6 l:=by
 intro i j b a;unfold PW at h;rw[List.pairwise_iff_getElem]at h;have:=h i j (by omega) a b;unfold dr;rw[List.getElem?_eq_getElem (show i<l.length by omega),List.getElem?_eq_getElem a];exact this
theorem pi {l:List Rw}:da l=true↔l.length<=60/\(∀ x ∈ l,sz1 x=true)/\PW l:=by
 constructor
 .intro h
  refine⟨mj h,fun x hx=>?_,yi (qg h)⟩;obtain⟨c,a,b⟩:=Oz h x hx;exact Ik c a b
 .rintro⟨a,b,d⟩
  refine wj a fun i hi=>?_
  unfold mo;have f:dr l i ∈ l:=List.mem_of_getElem? (Bq hi);rw[b _ f,Bool.true_and];by_cases e:i=0
  .simp[e]
  .rw[yh d (i-1) i (by omega) hi]
   simp
theorem az6 {g:List Rw}(b:m6 g){x:Rw}(c:x ∈ g):x.key=np g\/ltK x.key (np g)=true:=by
 obtain⟨i,a⟩:=List.getElem?_of_mem c;have d:=(List.getElem?_eq_some_iff.1 a).1;by_cases e:i=g.length-1
 .left
  unfold np;rw[<- e,nu a]
 .right
  have:=b i (g.length-1) (by omega) (by omega);rw[nu a]at this;exact this
theorem az5 {g:List Rw}(b:m6 g){x:Rw}(d:x ∈ g):rd g=x.key\/ltK (rd g) x.key=true:=by
 obtain⟨i,a⟩:=List.getElem?_of_mem d;have c:=(List.getElem?_eq_some_iff.1 a).1;by_cases e:i=0
 .left
  unfold rd;rw[<- e,nu a]
 .right
  have:=b 0 i (by omega) c;rw[nu a]at this;exact this
theorem b80 {a b c d:ByteArray}(h1:a=b\/ltK a b=true) (h2:ltK b c=true) (e:c=d\/ltK c d=true):ltK a d=true:=by
 have f:ltK a c=true:=by
  rcases h1 with rfl|h1
  .exact h2
  .exact ml h1 h2
 rcases e with rfl|e
 .exact f
 .exact ml f e
theorem wq.pw {gs:List (List Rw)}(a:wq gs):PW gs.flatten:=by
 unfold PW;rw[List.pairwise_flatten];refine⟨fun g hg=>yi (qg (a.good g hg).1),?_⟩;rw[List.pairwise_iff_getElem];intro i j d f s x q y r;have b:gs[i]? = some gs[i]:=List.getElem?_eq_getElem d;have c:gs[j]? = some gs[j]:=List.getElem?_eq_getElem f;obtain⟨l,t⟩:=a.good gs[i] (List.getElem_mem d);obtain⟨n,u⟩:=a.good gs[j] (List.getElem_mem f);have k:ltK (np gs[i]) (rd gs[j])=true:=by
  by_cases e:j=i+1
  .exact a.rise i _ _ b (by rw[<- e];exact c)
  .obtain⟨m,h⟩:∃ m,gs[j-1]? = some m:=⟨_,List.getElem?_eq_getElem (by omega)⟩
   have o:=a.ends (j-1-i-1) i _ m b (by rw[show i+1+(j-1-i-1)=j-1 by omega];exact h);have p:=a.rise (j-1) m _ h (by rw[show j-1+1=j by omega];exact c);exact ml o p
 exact b80 (az6 (qg l) q) k (az5 (qg n) r)
theorem aw1 {gs:List (List Rw)}(h1:∀ g ∈ gs,g.length<=60/\0<g.length/\∀ x ∈ g,sz1 x=true) (h2:PW gs.flatten):wq gs:=by
 unfold PW at h2;rw[List.pairwise_flatten]at h2;refine⟨fun g hg=>⟨pi.2 ⟨(h1 g hg).1,(h1 g hg).2.2,h2.1 g hg⟩,(h1 g hg).2.1⟩,fun i a b ha hb=>?_⟩;have c:=(List.getElem?_eq_some_iff.1 ha);have d:=(List.getElem?_eq_some_iff.1 hb);have:=List.pairwise_iff_getElem.1 h2.2 i (i+1) c.1 d.1 (by omega);rw[c.2,d.2]at this;have f:=(h1 a (List.mem_of_getElem? ha)).2.1;have e:=(h1 b (List.mem_of_getElem? hb)).2.1;exact this (dr a (a.length-1)) (List.mem_of_getElem? (Bq (by omega))) (dr b 0) (List.mem_of_getElem? (Bq e))
def jc (l:List Rw) (x:Rw):List Rw:=l.take (ba l x.key)++([x]++l.drop (if di l x.key then ba l x.key+1 else ba l x.key))
theorem ar9 {l:List Rw} {key:ByteArray}(d:m6 l):∀ y ∈ l.take (ba l key),ltK y.key key=true:=by
 intro y e;obtain⟨i,a⟩:=List.getElem?_of_mem e;obtain⟨f,c,g⟩:=nz key d;have b:=(List.getElem?_eq_some_iff.1 a).1;rw[List.length_take]at b;rw[List.getElem?_take_of_lt (by omega)]at a;have:=c i (by omega);rw[nu a]at this;exact this
theorem a18 {l:List Rw} {key:ByteArray}(d:m6 l):∀ y ∈ l.drop (if di l key then ba l key+1 else ba l key),ltK key y.key=true:=by
 intro y f;obtain⟨i,a⟩:=List.getElem?_of_mem f;obtain⟨g,h,e⟩:=nz key d;rw[List.getElem?_drop]at a;have b:=(List.getElem?_eq_some_iff.1 a).1
 cases ht:di l key
 .rw[ht]at a b
  simp only[Bool.false_eq_true,if_false]at a b;have c:=e (ba l key+i) (by omega) b;rw[nu a]at c;exact Ul c (aa7 d ht y (List.mem_of_getElem? a))
 .rw[ht]at a b
  simp only[if_true]at a b;unfold di at ht;rw[Bool.and_eq_true,decide_eq_true_eq,decide_eq_true_eq,zt]at ht;have c:=d (ba l key) (ba l key+1+i) (by omega) b;rw[ht.2,nu a]at c;exact c
theorem ay5 {l:List Rw} {x:Rw}(d:PW l):PW (jc l x):=by
 have h:=yh d;have e:=ar9 (key:=x.key) h;have f:=a18 (key:=x.key) h;unfold jc PW;rw[List.pairwise_append,List.pairwise_append];refine⟨List.Pairwise.sublist (List.take_sublist _ _) d,⟨List.pairwise_singleton _ _,List.Pairwise.sublist (List.drop_sublist _ _) d,fun a ha b c=>?_⟩,fun a ha b c=>?_⟩
 .simp at ha
  subst ha;exact f b c
 .rcases List.mem_append.1 c with c|c
  .simp at c
   subst c;exact e a ha
  .exact ml (e a ha) (f b c)
theorem Pi {l:List Rw} {x y:Rw}(h:y ∈ jc l x):y=x\/y ∈ l:=by
 unfold jc at h;rcases List.mem_append.1 h with h|h
 .exact .inr (List.mem_of_mem_take h)
 .rcases List.mem_append.1 h with h|h
  .simp at h;exact .inl h
  .exact .inr (List.mem_of_mem_drop h)
theorem Ph {l:List Rw} {x:Rw}(a:m6 l):(jc l x).length<=l.length+1:=by
 have:=(nz x.key a).1;unfold jc;simp only[List.length_append,List.length_take,List.length_drop,List.length_singleton];split <;> omega
open Go.RowKit
structure bg (w:World) (lo hi:Nat) (v:Value) (gs:List (List Rw)) (vs:List Value):Prop where
 top:hi<=w.heap.size
 len:vs.length=gs.length
 row:w.ownsRow lo 32 1 v gs.length vs
 rlt:∀ g,v.ownBlock=some g->g<hi
 ins:∀ (k:Nat) (g:List Rw),gs[k]? = some g->∃ x,vs[k]? = some x/\Rws w lo x g/\∀ b,x.ownBlock=some b->b<hi
 two:∀ (i j:Nat) (x y:Value),i≠j->vs[i]? = some x->vs[j]? = some y->x.ownBlock=none\/x.ownBlock≠y.ownBlock
theorem Mk {w w':World} {B e size n:Nat} {v:Value} {xs:List Value}(h:w.ownsRow B e size v n xs) (j:∀ g,v.ownBlock=some g->w'.heap[g]? = w.heap[g]?):w'.ownsRow B e size v n xs:=by
 refine⟨h.1,?_⟩;rcases h.2 with a|⟨g,c,d,b,a,f,i⟩
 .exact .inl a
 .exact .inr ⟨g,c,d,b,a,by rw[j g (by rw[b];rfl)];exact f,i⟩
theorem bg.same {w w':World} {a hi:Nat} {v:Value} {gs:List (List Rw)} {vs:List Value}(h:bg w a hi v gs vs) (f:w.heap.size<=w'.heap.size) (d:∀ g,a<=g->g<hi->w'.heap[g]? = w.heap[g]?):bg w' a hi v gs vs:=by
 refine⟨Nat.le_trans h.top f,h.len,Mk h.row (fun g hg=>d g (World.ownsRow.lt h.row g hg).1 (h.rlt g hg)),h.rlt,fun k g hg=>?_,h.two⟩;obtain⟨x,i,c,e⟩:=h.ins k g hg;exact⟨x,i,Mk c (fun b hb'=>d b (World.ownsRow.lt c b hb').1 (e b hb')),e⟩
theorem bg.below {w w':World} {b hi:Nat} {v:Value} {gs:List (List Rw)} {vs:List Value}(h:bg w b hi v gs vs) (a:Below w.heap.size w w'):bg w' b hi v gs vs :=
 h.same a.size (fun g _ hg=>a.block g (Nat.lt_of_lt_of_le hg h.top))
theorem bg.high {w:World} {e hi d:Nat} {v:Value} {gs:List (List Rw)} {vs:List Value}(h:bg w e hi v gs vs) (h1:hi<=d) (h2:d<=w.heap.size):bg w e d v gs vs :=
 ⟨h2,h.len,h.row,fun g hg=>Nat.lt_of_lt_of_le (h.rlt g hg) h1,fun k g hg=>by obtain⟨x,a,b,c⟩:=h.ins k g hg;exact⟨x,a,b,fun q hq=>Nat.lt_of_lt_of_le (c q hq) h1⟩,h.two⟩
theorem bg.nil (w:World) (a:Nat):bg w a w.heap.size (.slice none 0 0) [] [] :=
 ⟨bR,rfl,⟨rfl,.inl ⟨rfl,rfl⟩⟩,fun g hg=>(by cases hg),fun k g hg=>by simp at hg,fun i j x y _ hx=>by simp at hx⟩
theorem bg.apart {w:World} {e hi:Nat} {v:Value} {gs:List (List Rw)} {vs:List Value}(h:bg w e hi v gs vs){B n:Nat} {x:Value} {xs:List Value}(d:w.ownsRow B 37 3 x n xs):v.ownBlock=none\/v.ownBlock≠x.ownBlock:=by
 rcases h.row.2 with ⟨rfl,_⟩|⟨g,f,j,rfl,_,b,_⟩
 .exact .inl rfl
 .refine .inr fun c=>?_
  rcases d.2 with ⟨rfl,_⟩|⟨g',i,k,rfl,_,a,_⟩
  .cases c
  .have:g=g':=Option.some.inj c
   subst this;rw[b]at a;injection a with q1;injection q1 with _ q2;exact absurd q2 (by decide)
theorem bg.form {w:World} {d hi:Nat} {v:Value} {gs:List (List Rw)} {vs:List Value}(h:bg w d hi v gs vs):∃ a c,v=.slice a gs.length c/\∀ (k:Nat) (x:Value),vs[k]? = some x->∃ g,a=some ⟨g,0,none⟩/\d<=g/\g<hi/\w.cell? ⟨g,k,none⟩=some x/\∀ j,w.frozen? ⟨g,j,none⟩=false:=by
 rcases h.row.2 with ⟨rfl,n⟩|⟨g,o,e,rfl,i,b,p,q,r,f⟩
 .have:gs=[]:=List.eq_nil_of_length_eq_zero n
  subst this;exact⟨_,_,rfl,fun k x hx=>by have:=(List.getElem?_eq_some_iff.1 hx).1;rw[h.len]at this;simp at this⟩
 .refine⟨_,_,rfl,fun k x hx=>⟨g,rfl,i,h.rlt g rfl,?_,fun j=>by simp[World.frozen?,b]⟩⟩
  have m:=(List.getElem?_eq_some_iff.1 hx).1;rw[h.len]at m;have l:e[k]? = some x:=by
   rw[<- Array.getElem?_toList];rw[<- f,List.getElem?_take_of_lt (by omega)]at hx;exact hx
  simp[World.cell?,b,l]
theorem Cv {v x:Value}(h:v.ownBlock=none\/v.ownBlock≠x.ownBlock):x.ownBlock=none\/x.ownBlock≠v.ownBlock:=by
 cases c:x.ownBlock with
 | none=>exact .inl rfl
 | some j =>
  refine .inr fun e=>?_
  rcases h with h|h
  .rw[h]at e;cases e
  .exact h (by rw[c];exact e.symm)
theorem bg.push {w u u':World} {l hi g cap:Nat} {v x0:Value} {l0:List Rw} {gs:List (List Rw)} {vs:List Value}(h:bg w l hi v gs vs) (E:l<=w.heap.size) (L:Below w.heap.size w u) (h0:Rws u w.heap.size x0 l0) (t:u.grownBy u' v.ownBlock) (A:u'.ownsRow l 32 1 (.slice (some ⟨g,0,none⟩) (gs.length+1) cap) (gs.length+1) (vs++[x0])) :
  bg u' l u'.heap.size (.slice (some ⟨g,0,none⟩) (gs.length+1) cap) (gs++[l0]) (vs++[x0]):=by
 have m:=h.below L;have o:∀ b,x0.ownBlock=some b->w.heap.size<=b:=fun b hb=>(World.ownsRow.lt h0 b hb).1
 have r:Rws u' l x0 l0:=by
  have q:=World.ownsRow.kept h0 t (Cv (m.apart h0));refine⟨q.1,?_⟩;rcases q.2 with q2|⟨g,cap,C,a,b,c⟩
  .exact .inl q2
  .exact .inr ⟨g,cap,C,a,Nat.le_trans E b,c⟩
 have p:∀ (i:Nat) (y:Value),vs[i]? = some y->∀ b,y.ownBlock=some b->b<w.heap.size:=fun i y hy b hb=>by
  have D:=(List.getElem?_eq_some_iff.1 hy).1;obtain⟨q,f⟩:∃ q,gs[i]? = some q:=⟨_,List.getElem?_eq_getElem (by rw[<- h.len];exact D)⟩
  obtain⟨z,B,_,K⟩:=h.ins i q f;rw[hy]at B;obtain rfl:=Option.some.inj B;exact Nat.lt_of_lt_of_le (K b hb) h.top
 refine⟨bR,by simp[h.len],by simpa using A,fun b hb=>(World.ownsRow.lt A b hb).2,fun k q f=>?_,fun i j x y hij d hy=>?_⟩
 .by_cases c:k<gs.length
  .rw[List.getElem?_append_left c]at f
   obtain⟨x,d,s,_⟩:=m.ins k q f;have n:=World.ownsRow.kept s t (Cv (m.apart s));exact⟨x,by rw[List.getElem?_append_left (by rw[h.len];exact c)];exact d,n,fun b hb=>(World.ownsRow.lt n b hb).2⟩
  .have J:=(List.getElem?_eq_some_iff.1 f).1
   have:k=gs.length:=by simp at J;omega
   subst this;simp at f;subst f;exact⟨x0,by rw[<- h.len];simp,r,fun b hb=>(World.ownsRow.lt r b hb).2⟩
 .have M:=(List.getElem?_eq_some_iff.1 d).1
  have N:=(List.getElem?_eq_some_iff.1 hy).1;simp at M N;by_cases F:i<vs.length
  .rw[List.getElem?_append_left F]at d
   by_cases G:j<vs.length
   .rw[List.getElem?_append_left G]at hy
    exact h.two i j x y hij d hy
   .have:j=vs.length:=by omega
    subst this;simp at hy;subst hy
    cases e:x.ownBlock with
    | none=>exact .inl rfl
    | some b =>
     refine .inr fun c=>?_
     have H:=p i x d b e;have I:=o b c.symm;omega
  .have:i=vs.length:=by omega
   subst this;simp at d;subst d;rw[List.getElem?_append_left (by omega)]at hy
   cases e:x0.ownBlock with
   | none=>exact .inl rfl
   | some b =>
    refine .inr fun c=>?_
    have H:=p j y hy b c.symm;have I:=o b e;omega
theorem Co:(prog.info? 32).map (fun i=>(i.zero,i.size,i.bytes))=some (some (.slice none 0 0),1,24):=by kernel_rfl
theorem bg.store {w u:World} {m hi g c k:Nat} {x0:Value} {l0:List Rw} {gs:List (List Rw)} {vs:List Value}(h:bg w m hi (.slice (some ⟨g,0,none⟩) gs.length c) gs vs) (I:m<=w.heap.size) (M:Below w.heap.size w u) (h0:Rws u w.heap.size x0 l0) (D:k<gs.length) :
  bg (u.setCell ⟨g,k,none⟩ x0) m (u.setCell ⟨g,k,none⟩ x0).heap.size (.slice (some ⟨g,0,none⟩) gs.length c) (gs.set k l0) (vs.set k x0):=by
 have l:=h.below M;have s:=World.ownsRow.stored l.row k x0;have C:u.grownBy (u.setCell ⟨g,k,none⟩ x0) (Value.slice (some ⟨g,0,none⟩) gs.length c).ownBlock:=s.2;have r:∀ (i:Nat) (y:Value),vs[i]? = some y->∀ b,y.ownBlock=some b->b<w.heap.size:=fun i y d b hb=>by
  have H:=(List.getElem?_eq_some_iff.1 d).1;obtain⟨q,f⟩:∃ q,gs[i]? = some q:=⟨_,List.getElem?_eq_getElem (by rw[<- h.len];exact H)⟩
  obtain⟨z,E,_,L⟩:=h.ins i q f;rw[d]at E;obtain rfl:=Option.some.inj E;exact Nat.lt_of_lt_of_le (L b hb) h.top
 have p:∀ b,x0.ownBlock=some b->w.heap.size<=b:=fun b hb=>(World.ownsRow.lt h0 b hb).1
 have t:Rws (u.setCell ⟨g,k,none⟩ x0) m x0 l0:=by
  have q:=World.ownsRow.kept h0 C (Cv (l.apart h0));refine⟨q.1,?_⟩;rcases q.2 with q2|⟨g,F,G,a,b,c⟩
  .exact .inl q2
  .exact .inr ⟨g,F,G,a,Nat.le_trans I b,c⟩
 have n:k<vs.length:=by rw[h.len];exact D
 refine⟨bR,by simp[h.len],by rw[List.length_set];exact s.1,fun b hb=>(World.ownsRow.lt s.1 b hb).2,fun j q f=>?_,fun i j x y hij hx d=>?_⟩
 .by_cases e:k=j
  .subst e
   rw[List.getElem?_set_self D]at f;obtain rfl:=Option.some.inj f;exact⟨x0,List.getElem?_set_self n,t,fun b hb=>(World.ownsRow.lt t b hb).2⟩
  .rw[List.getElem?_set_ne e]at f
   obtain⟨y,d,B,_⟩:=l.ins j q f;have o:=World.ownsRow.kept B C (Cv (l.apart B));exact⟨y,by rw[List.getElem?_set_ne e];exact d,o,fun b hb=>(World.ownsRow.lt o b hb).2⟩
 .by_cases v:k=i
  .subst v
   rw[List.getElem?_set_self n]at hx;obtain rfl:=Option.some.inj hx;rw[List.getElem?_set_ne hij]at d
   cases e:x0.ownBlock with
   | none=>exact .inl rfl
   | some b =>
    refine .inr fun c=>?_
    have J:=r j y d b c.symm;have K:=p b e;omega
  .rw[List.getElem?_set_ne v]at hx
   by_cases A:k=j
   .subst A
    rw[List.getElem?_set_self n]at d;obtain rfl:=Option.some.inj d
    cases e:x.ownBlock with
    | none=>exact .inl rfl
    | some b =>
     refine .inr fun c=>?_
     have J:=r i x hx b e;have K:=p b c.symm;omega
   .rw[List.getElem?_set_ne A]at d
    exact h.two i j x y hij hx d
def BkV (w:World) (v:Value) (gs:List (List Rw)):Prop :=
 ∃ a c,v=.slice a gs.length c/\∀ (k:Nat) (g:List Rw),gs[k]? = some g->∃ b o ax cx,a=some ⟨b,o,none⟩/\w.cell? ⟨b,o+k,none⟩=some (.slice ax g.length cx)/\dc w ax g
theorem BkV.below {w w':World} {B:Nat} {v:Value} {gs:List (List Rw)}(h:BkV w v gs) (f:Below B w w') (e:w.heap.size<=B):BkV w' v gs:=by
 obtain⟨a,c,rfl,h⟩:=h;refine⟨a,c,rfl,fun k g hg=>?_⟩;obtain⟨b,o,i,j,l,d,m⟩:=h k g hg;exact⟨b,o,i,j,l,(f.cell (Nat.lt_of_lt_of_le (ag d) e)).trans d,m.below f e⟩
theorem bg.bk {w:World} {m hi:Nat} {v:Value} {gs:List (List Rw)} {vs:List Value}(h:bg w m hi v gs vs):BkV w v gs:=by
 obtain⟨a,c,rfl,q⟩:=h.form;refine⟨a,c,rfl,fun k g hg=>?_⟩;obtain⟨x,l,d,_⟩:=h.ins k g hg;obtain⟨b,i,_,_,j,_⟩:=q k x l;obtain⟨e,f,rfl⟩:=db d;exact⟨b,0,e,f,i,by simpa using j,ja d⟩
def Ak (gs:List (List Rw)):Option (List ByteArray):=if gs.length<=40/\(gs.all io)=true then some (gs.map pbT) else none
theorem Zx {gs:List (List Rw)}(h:¬ gs.length<=40):Ak gs=none:=by unfold Ak;rw[if_neg (fun c=>h c.1)]
theorem ag4 {gs:List (List Rw)} {k:Nat} {g:List Rw}(a:gs[k]? = some g) (h:io g=false):Ak gs=none:=by
 unfold Ak;rw[if_neg];rintro⟨_,c⟩;rw[List.all_eq_true]at c;rw[c g (List.mem_of_getElem? a)]at h
 cases h
theorem O8 {gs:List (List Rw)}(h:gs.length<=40) (b:∀ (j:Nat) (g:List Rw),gs[j]? = some g->io g=true):Ak gs=some (gs.map pbT):=by
 have a:gs.all io=true:=by
  rw[List.all_eq_true];intro g c;obtain⟨i,d⟩:=List.getElem?_of_mem c;exact b i g d
 unfold Ak;rw[if_pos ⟨h,a⟩]
theorem an6 (g:List Rw):(pbT g).size<=300:=by
 unfold pbT;split
 .rename_i h
  unfold io at h;simp only[Bool.and_eq_true,decide_eq_true_eq]at h;rw[rg];exact h.2
 .exact Nat.zero_le _
theorem b87 {g:List Rw}(h:io g=true):pbT g=pgB g:=by unfold pbT pgB;rw[if_pos h]
def sq (l:List Rw) (key:ByteArray):List Rw:=l.take (ba l key)++l.drop (ba l key+1)
theorem a16 {l:List Rw} {key:ByteArray}(a:m6 l) (ht:di l key=true):(sq l key).length=l.length-1:=by
 have b:=(qt a ht).2;unfold sq;rw[List.length_append,List.length_take,List.length_drop];omega
theorem a17 (l:List Rw) (key:ByteArray):(sq l key).Sublist l:=by
 unfold sq;conv=>rhs;rw[<- List.take_append_drop (ba l key) l]
 refine List.Sublist.append (List.Sublist.refl _) ?_;rw[show l.drop (ba l key+1)=(l.drop (ba l key)).drop 1 by rw[List.drop_drop]];exact List.drop_sublist _ _
theorem zj {P:Program}(w:World) (t ty e:TypeId) (i:TypeInfo) (ht:P.underlying t=some (.slice e)) (hi:P.info? e=some i) (b:Option Addr) (n c d:Nat) (a:n<=c) :
  (Builtin.append_ #[t,t] ty #[.slice b n c,.slice none 0 d]).run P w=.ok (.slice b n c) w:=by
 cases b <;> simp[Builtin.append_,run_underlying ht,sizeOf,typeInfo,hi,a,storeCells,Builtin.lenOf,Builtin.firstCells]
theorem Hv:(prog.info? 37).map (fun i=>(i.zero,i.size,i.bytes))=some (some (.agg #[.string ⟨#[]⟩,.string ⟨#[]⟩,.string ⟨#[]⟩]),3,48):=by kernel_rfl
def SlV (w:World) (v:Value) (l:List Rw):Prop:=∃ a c,v=.slice a l.length c/\dc w a l
theorem SlV.below {w w':World} {B:Nat} {v:Value} {l:List Rw}(h:SlV w v l) (d:Below B w w') (b:w.heap.size<=B):SlV w' v l:=by
 obtain⟨a,c,rfl,h⟩:=h;exact⟨a,c,rfl,h.below d b⟩
theorem Rws.slV {w:World} {B:Nat} {v:Value} {l:List Rw}(h:Rws w B v l):SlV w v l:=by
 obtain⟨a,c,rfl⟩:=db h;exact⟨a,c,rfl,ja h⟩
theorem ab6 (l:List Rw):∀ v ∈ fe l,v.oneCell'=true:=by
 intro v a;simp only[fe,List.mem_flatMap]at a;obtain⟨x,_,b⟩:=a;simp[rwC]at b
 rcases b with rfl|rfl|rfl <;> rfl
theorem Ij {w:World} {b o:Nat} {l:List Rw}(h:∀ (k:Nat) (e:Rw),l[k]? = some e->w.cell? ⟨b,o+k*3,none⟩=some (.string e.key)/\w.cell? ⟨b,o+k*3+1,none⟩=some (.string e.text)/\w.cell? ⟨b,o+k*3+2,none⟩=some (.string e.val)) :
  ∀ j v,(fe l)[j]? = some v->w.cell? ((⟨b,o,none⟩:Addr).add j)=some v:=by
 intro j v a;have f:(⟨b,o,none⟩:Addr).add j=⟨b,o+j,none⟩:=by unfold Addr.add;split <;> simp_all
 rw[f];have p:=(List.getElem?_eq_some_iff.1 a).1;rw[o6]at p;obtain⟨k,i,rfl,d⟩:∃ k i,j=k*3+i/\i<3:=⟨j / 3,j % 3,by omega,by omega⟩
 obtain⟨e,c⟩:∃ e,l[k]? = some e:=⟨_,List.getElem?_eq_getElem (by omega)⟩
 rw[Ig l k i e c d]at a;obtain⟨g,m,n⟩:=h k e c;rw[show o+(k*3+i)=o+k*3+i by omega];match i,d with
 | 0,_=>simp[rwC]at a;subst a;exact g
 | 1,_=>simp[rwC]at a;subst a;exact m
 | 2,_=>simp[rwC]at a;subst a;exact n
theorem Dk {w:World} {o:Oper} {a:Act} {K:Act->World->Prop} {Q:Exit->Act->World->Prop}(s x:Operand)
  (t:o.op=.call { callee:=.builtin .append,args:=#[s,x],argTypes:=#[32,32] }) (B:Nat) (v p:Value) (l l':List Rw) (y:a.eval s=v) (z:a.eval x=p) (k:Rws w B v l) (m:SlV w p l')
  (N:l.length+l'.length<=1048576) (C:B<=w.heap.size) (h:∀ v' w',Rws w' B v' (l++l')->w.grownBy w' v.ownBlock->K (a.put o.dst v') w'):Oper.wp prog o a w K Q:=by
 obtain⟨A,r,G,E,F⟩:=info_parts Hv;have q:∀ (d:Addr) (c:Nat),p=.slice (some d) l'.length c->(∀ j u,(fe l')[j]? = some u->w.cell? (d.add j)=some u)->Oper.wp prog o a w K Q:=fun d c e hc=>by
  refine wp_append_own w s x 32 t B 37 A _ 3 48 underlying32 r G E F rfl (by decide) v l.length (fe l) y k d l'.length c (fe l') (z.trans e) (o6 l') hc (ab6 l') (by unfold maxLen;omega) (by omega) C fun v' w' i h2 _=>h v' w' ?_ h2
  unfold Rws;rw[List.length_append,zk];exact i
 obtain⟨I,f,e,m⟩:=m;rcases m with rfl|⟨b,H,rfl,L⟩
 .cases I with
  | none =>
   obtain⟨b,n,J,rfl,D⟩:∃ b n c,v=.slice b n c/\n<=c:=by
    rcases k.form with ⟨rfl,rfl⟩|⟨g,M,rfl,i,_⟩
    .exact⟨_,_,_,rfl,bR⟩
    .exact⟨_,_,_,rfl,i⟩
   refine Go.Lib.wp_append_run w s x 32 32 t _ _ y (z.trans e) _ _ (zj w _ _ _ A underlying32 r b n J f D) ?_;refine h _ _ ?_ ⟨rfl,rfl,rfl,bR,fun _ _ _=>rfl⟩;rw[List.append_nil];exact k
  | some d=>exact q d f e (fun j u hj=>by simp[fe]at hj)
 .exact q ⟨b,H,none⟩ f e (Ij L)
theorem gi {w:World} {d:Array Oper} {rest:List Oper} {o:Oper} {a:Act} {Q:Exit->Act->World->Prop}(g:o.guard=none) (s x:Operand)
  (k:o.op=.call { callee:=.builtin .append,args:=#[s,x],argTypes:=#[32,32] }) (B:Nat) (v c:Value) (l b:List Rw) (m:a.eval s=v) (n:a.eval x=c) (i:Rws w B v l) (j:SlV w c b)
  (e:l.length+b.length<=1048576) (f:B<=w.heap.size) (h:∀ v' w',Rws w' B v' (l++b)->w.grownBy w' v.ownBlock->wpList prog d Q rest (a.put o.dst v') w'):wpList prog d Q (o::rest) a w :=
 wpList_plain g fun _ hK=>Dk s x k B v c l b m n i j e f fun v' w' h1 h2=>hK _ _ (h v' w' h1 h2)
theorem em {w:World} {f:Array Oper} {o:Oper} {a:Act} {K:Act->World->Prop} {Q:Exit->Act->World->Prop} {E:Prop}(e:o.guard=none) (s x:Operand)
  (j:o.op=.call { callee:=.builtin .append,args:=#[s,x],argTypes:=#[32,32] }) (B:Nat) (v b:Value) (l l':List Rw) (k:a.eval s=v) (m:a.eval x=b) (g:Rws w B v l) (i:SlV w b l')
  (c:l.length+l'.length<=1048576) (d:B<=w.heap.size) (h:∀ v' w',Rws w' B v' (l++l')->w.grownBy w' v.ownBlock->K (a.put o.dst v') w') :
  if Region.wanted o (yielded f a.tmps)=true then Oper.wp prog o a w K Q else E:=by
 rw[if_pos (by simp[Region.wanted,e])];exact Dk s x j B v b l l' k m g i c d h
theorem mb {w u:World} {B:Nat} {v:Value} {l:List Rw}(h:Rws w B v l) (a:u.heap=w.heap):Rws u B v l:=by
 unfold Rws World.ownsRow at *;rw[a];exact h
theorem Ac {w u:World} {a:Option Addr} {l:List Rw}(h:dc w a l) (g:u.heap=w.heap):dc u a l:=by
 rcases h with h|⟨b,o,d,f⟩
 .exact .inl h
 .refine .inr ⟨b,o,d,fun k e he=>?_⟩
  have c:∀ p,u.cell? p=w.cell? p:=fun p=>by unfold World.cell?;rw[g]
  rw[c,c,c];exact f k e he
theorem ff {W:World} {B a:Nat} {v:Value} {l:List Rw}(h:Rws W B v l) (e:a<=B):Rws W a v l:=by
 refine⟨h.1,?_⟩;rcases h.2 with d|⟨g,b,c,q1,q2,q3⟩
 .exact .inl d
 .exact .inr ⟨g,b,c,q1,by omega,q3⟩
theorem ip {w u:World} {v:Value} {l:List Rw}(h:SlV w v l) (i:u.heap=w.heap):SlV u v l:=by
 obtain⟨a,c,rfl,h⟩:=h;refine⟨a,c,rfl,?_⟩;rcases h with h|⟨b,o,f,g⟩
 .exact .inl h
 .refine .inr ⟨b,o,f,fun k e he=>?_⟩
  have d:∀ p,u.cell? p=w.cell? p:=fun p=>by unfold World.cell?;rw[i]
  rw[d,d,d];exact g k e he
theorem Uv {w u w':World} {B:Nat} {r:Option Nat} {v:Value} {l:List Rw}(a:u.grownBy w' r) (h:Rws w B v l) (c:u.heap=w.heap) (b:v.ownBlock≠r):SlV w' v l :=
 Rws.slV (World.ownsRow.kept (mb h c) a (.inr b))
theorem um (w:World) (n B:Nat) (b:n=w.heap.size) (a:B<=w.heap.size):Rws (w.alloc (.cells #[] 37)) B (.slice (some ⟨n,0,none⟩) 0 0) []:=by
 subst b;exact⟨rfl,.inr ⟨w.heap.size,0,#[],rfl,a,heap_alloc_new _ _,bR,Nat.zero_le _,rfl,rfl⟩⟩
theorem kh (w:World) (n B:Nat) (x:Rw) (b:n=w.heap.size) (a:B<=w.heap.size):Rws (w.alloc (.cells #[.string x.key,.string x.text,.string x.val] 37)) B (.slice (some ⟨n,0,none⟩) 1 1) [x]:=by
 subst b;exact⟨rfl,.inr ⟨w.heap.size,1,_,rfl,a,heap_alloc_new _ _,bR,by unfold maxLen;omega,rfl,rfl⟩⟩
theorem Hw:(prog.info? 5).map (fun i=>(i.zero,i.size,i.bytes))=some (some (.int .u8 0),1,1):=by kernel_rfl
def By6 (w:World) (base:Nat) (v:Value) (bs:List Int):Prop:=w.ownsRow base 5 1 v bs.length (bs.map (Value.int .u8))
theorem By6.form {w:World} {B:Nat} {v:Value} {bs:List Int}(h:By6 w B v bs):(v=.slice none 0 0/\bs=[])\/∃ g cap,v=.slice (some ⟨g,0,none⟩) bs.length cap:=by
 rcases h.2 with ⟨a,b⟩|⟨g,cap,c,a,_⟩
 .exact .inl ⟨a,by simpa using b⟩
 .exact .inr ⟨g,cap,a⟩
theorem By6.below {w w':World} {B:Nat} {v:Value} {bs:List Int}(h:By6 w B v bs) (a:Below w.heap.size w w'):By6 w' B v bs :=
 World.ownsRow.kept h (row:=none) ⟨a.os,a.tape,a.output,a.size,fun k hk _=>a.block k hk⟩ (by cases h:v.ownBlock <;> simp)
theorem By6.app {w:World} {B:Nat} {v:Value} {bs xs:List Int} {n:Nat}(a:n=xs.length) (h:w.ownsRow B 5 1 v (bs.length+n) (bs.map (Value.int .u8)++xs.map (Value.int .u8))):By6 w B v (bs++xs):=by
 subst a;unfold By6;simpa using h
theorem ac7 (s:ByteArray):Lib.strCells s=(bI s).map (Value.int .u8):=by
 unfold Lib.strCells bI;rw[List.map_map];rfl
theorem By6.str {w:World} {B:Nat} {v:Value} {bs:List Int} {s:ByteArray} {n:Nat}(a:n=s.size) (h:w.ownsRow B 5 1 v (bs.length+n) (bs.map (Value.int .u8)++Lib.strCells s)):By6 w B v (bs++bI s):=by
 rw[ac7]at h;exact By6.app (a.trans (Bc s).symm) h
theorem az8 (w:World) (n:Nat) (a:n=w.heap.size) (cs:List Int) (b:cs.length<=1000):By6 (w.alloc (.cells (cs.map (Value.int .u8)).toArray 5)) w.heap.size (.slice (some ⟨n,0,none⟩) cs.length cs.length) cs:=by
 subst a;refine⟨by simp,.inr ⟨w.heap.size,cs.length,(cs.map (Value.int .u8)).toArray,rfl,bR,heap_alloc_new _ _,bR,?_,by simp,?_⟩⟩
 .unfold maxLen;omega
 .apply List.take_of_length_le
  simp
theorem J4 (w:World) (n:Nat) (x y z t:Value) (ty:TypeId) (b:n=w.heap.size):∀ j u,[x,y,z,t][j]? = some u->(w.alloc (.cells #[x,y,z,t] ty)).cell? ((⟨n,0,none⟩:Addr).add j)=some u:=by
 subst b;intro j u a;match j,a with
 | 0,a=>simp at a;subst a;simp[Addr.add]
 | 1,a=>simp at a;subst a;simp[Addr.add]
 | 2,a=>simp at a;subst a;simp[Addr.add]
 | 3,a=>simp at a;subst a;simp[Addr.add]
 | j+4,a=>simp at a
theorem Vj (w:World) (n:Nat) (x:Value) (ty:TypeId) (b:n=w.heap.size):∀ j u,[x][j]? = some u->(w.alloc (.cells #[x] ty)).cell? ((⟨n,0,none⟩:Addr).add j)=some u:=by
 subst b;intro j u a;match j,a with
 | 0,a=>simp at a;subst a;simp[Addr.add]
 | j+1,a=>simp at a
theorem Gj:∀ (xs:List Int) (r:ByteArray),xs.foldl (fun r n=>r.push (UInt8.ofNat n.toNat)) r=⟨r.data++(xs.map fun x=>x.toNat.toUInt8).toArray⟩
 | [],r=>by simp
 | x::xs,r=>by
  simp only[List.map_cons,List.foldl_cons];rw[Gj xs];simp[ByteArray.push]
theorem Iq (b j:Nat):(⟨b,0,none⟩:Addr).add j=⟨b,j,none⟩:=by
 unfold Addr.add;split
 .rename_i h;subst h;rfl
 .simp
theorem a88 (w:World) (n:Nat) (e:n=w.heap.size) (x y z:Value) (t:TypeId) (a:Nat × Nat):∀ b,some (⟨n,0,none⟩:Addr)=some b->∀ j u,[x,y][j]? = some u->((w.alloc (.cells #[x,y] t a)).alloc (.cells #[z] t)).cell? (b.add j)=some u:=by
 subst e;intro b c j u d
 cases c
 rw[Iq,cell_of_row _ _ j #[x,y] t a (by rw[Below.heap_alloc _ _ _ (by simp)];exact heap_alloc_new w _)];simpa using d
theorem C9 {w:World} {B:Nat} {v:Value} {bs:List Int}(h:By6 w B v bs):(convert 22 9 v).run prog w=.ok (.string (byT bs)) w:=by
 rcases h.form with ⟨rfl,rfl⟩|⟨g,c,rfl⟩
 .rw[run_convert_bytes_string _ _ _ _ _ _ _ underlying22 underlying5 underlying9]
  rfl
 .rw[run_convert_bytes_string _ _ _ _ _ _ _ underlying22 underlying5 underlying9]
  have a:=run_loadCells_list (P:=prog) w ⟨g,0,none⟩ (bs.map (Value.int .u8)) (fun j v hj=>by
   have d:j<bs.length:=by have:=(List.getElem?_eq_some_iff.1 hj).1;simpa using this
   rw[Iq,World.ownsRow.cellAt h j (by omega),hj])
  simp only[List.length_map]at a;rw[run_bytesToString _ _ _ _ bs a,Gj];have b:ByteArray.empty.data=#[]:=rfl;rw[b];simp[byT]
def f9 (w:World) (b:Nat) (x:Rw):Prop:=w.heap[b]? = some (.cells #[.string x.key,.string x.text,.string x.val] 37)
theorem f9.lt {w:World} {b:Nat} {x:Rw}(h:f9 w b x):b<w.heap.size:=(Array.getElem?_eq_some_iff.1 h).1
theorem f9.cells {w:World} {b:Nat} {x:Rw}(h:f9 w b x):w.cell? ⟨b,0,none⟩=some (.string x.key)/\w.cell? ⟨b,1,none⟩=some (.string x.text)/\w.cell? ⟨b,2,none⟩=some (.string x.val) :=
 ⟨cell_of_row _ _ 0 _ _ _ h,cell_of_row _ _ 1 _ _ _ h,cell_of_row _ _ 2 _ _ _ h⟩
theorem f9.below {w w':World} {b:Nat} {x:Rw}(h:f9 w b x) (a:Below w.heap.size w w'):f9 w' b x:=(a.block b h.lt).trans h
theorem f9.ne {w:World} {B b n:Nat} {v:Value} {x:Rw} {xs:List Value}(h:f9 w b x) (i:w.ownsRow B 5 1 v n xs):some b≠v.ownBlock:=by
 rcases i.2 with ⟨rfl,_⟩|⟨g,j,k,rfl,_,f,_⟩
 .intro c;cases c
 .intro c
  have e:b=g:=Option.some.inj c;subst e;unfold f9 at h;rw[f]at h;injection h with a;injection a with _ d _;exact absurd d (by decide)
theorem f9.kept {w w':World} {B b n:Nat} {v:Value} {x:Rw} {xs:List Value}(h:f9 w b x) (c:w.ownsRow B 5 1 v n xs) (a:w.grownBy w' v.ownBlock):f9 w' b x :=
 (a.block b h.lt (h.ne c)).trans h
theorem f9.alloc {w:World} {b:Nat} {x:Rw}(h:f9 w b x) (o:Obj):f9 (w.alloc o) b x:=by
 unfold f9;rw[Below.heap_alloc _ _ _ h.lt];exact h
theorem o7 (w:World) (x:Rw):f9 (w.alloc (.cells #[.string x.key,.string x.text,.string x.val] 37)) w.heap.size x:=heap_alloc_new w _
theorem kw {W w w':World} {B n:Nat} {v:Value} {xs:List Value}(b:Below B W w) (d:w.ownsRow B 5 1 v n xs) (c:w.grownBy w' v.ownBlock) (a:B<=w.heap.size):Below B W w' :=
 Below.grown b c a (fun j hj=>(World.ownsRow.lt d j hj).1)
def ao0:Go.Shelf.Ren:=⟨fun|25=>148|n=>n,fun|0=>0|3=>3|4=>4|5=>5|9=>9|37=>22|47=>234|n=>n,fun|n=>n⟩
theorem bh9:Go.Proofs.LaysPu.n25 prog ao0:={
 mixed:=by kernel_rfl
 f25:=Tryz.func148.trans (congrArg some (by kernel_rfl))
 t0:=underlying0
 a0:=Tryz.isAgg0
 z0:=Tryz.sizeOf0
 v0:=Tryz.zeroValue0
 i0:=by kernel_rfl
 t3:=underlying3
 a3:=Tryz.isAgg3
 z3:=Tryz.sizeOf3
 v3:=Tryz.zeroValue3
 i3:=by kernel_rfl
 t4:=underlying4
 a4:=Tryz.isAgg4
 z4:=Tryz.sizeOf4
 v4:=Tryz.zeroValue4
 i4:=by kernel_rfl
 t5:=underlying5
 a5:=Tryz.isAgg5
 z5:=Tryz.sizeOf5
 v5:=Tryz.zeroValue5
 i5:=by kernel_rfl
 t9:=underlying9
 a9:=Tryz.isAgg9
 z9:=Tryz.sizeOf9
 v9:=Tryz.zeroValue9
 i9:=by kernel_rfl
 t37:=underlying22
 a37:=Tryz.isAgg22
 z37:=Tryz.sizeOf22
 v37:=Tryz.zeroValue22
 i37:=by kernel_rfl
 t47:=underlying234
 a47:=Tryz.isAgg234
 z47:=Tryz.sizeOf234
 v47:=Tryz.zeroValue234
 i47:=by kernel_rfl }
theorem vu (s:ByteArray) (w:World) (b:s.size<=1048576):Calls prog 123 #[.string s] w fun e w'=>e=.returned (.string s)/\Below w.heap.size w w':=by
 have C:Calls prog 148 #[.string s] w fun e w'=>e=.returned (.string s)/\Below w.heap.size w w':=Go.Proofs.AnyPu.stringslite_Clone bh9 s w (by omega)
 go_enter func123,ntmps123;go_wp2_with fail;refine C.mono ?_;rintro e c ⟨rfl,a⟩;clear C;go_wp2;go_ret;exact⟨rfl,a⟩
theorem Ro (n:Nat):(Builtin.zeroCells #[.string ⟨#[]⟩,.string ⟨#[]⟩,.string ⟨#[]⟩] n).size=n*3:=by simp[Builtin.zeroCells]
theorem Jp (w:World) (n:Nat) (i:n<=1048576) :
  Calls prog 122 #[.slice none 0 0,.int .i64 n] w fun e w'=>∃ v,e=.returned v/\Rws w' w.heap.size v []/\Below w.heap.size w w':=by
 by_cases d:0<n
 .obtain⟨g,f,c,a,b⟩:=info_parts Hv
  have h:(0:Int)<(n:Int):=by omega
  go_enter func122,ntmps122;go_wp2_with (at_builtin;refine Go.Lib.wpList_append_run _ rfl _ _ 32 3 rfl _ _ rfl rfl _ _ (Go.Lib.run_append_nil_zeros _ 32 3 _ 37 g (.agg #[.string ⟨#[]⟩,.string ⟨#[]⟩,.string ⟨#[]⟩]) .i64 .i64 underlying32 underlying3 f c n d (by rw[a];decide) (by omega) (by rw[b];omega)) ?_)
  go_ret;refine⟨_,rfl,⟨rfl,.inr ⟨w.heap.size,_,_,rfl,bR,heap_alloc_new _ _,Nat.zero_le _,grownCap_le_maxLen w n 0 _ (by unfold maxLen;omega),?_,rfl⟩⟩,(bY _).drew⟩;have:=grownCap_ge w n 0 37;rw[Array.size_append,Ro,Ro];omega
 .obtain rfl:n=0:=by omega
  go_enter func122,ntmps122;go_wp2;go_ret;exact⟨_,rfl,⟨rfl,.inl ⟨rfl,rfl⟩⟩,bX⟩
theorem Sb (w:World) (d:Nat) (B C:Value) (l1 c:List Rw) (o:w.heap[d]? = some (.cells #[B,C] 32)) (L:l1.length<=4000) (M:c.length<=4000) (t:SlV w B l1) (x:SlV w C c) :
  Calls prog 86 #[.slice (some ⟨d,0,none⟩) 2 2] w fun e w'=>∃ v,e=.returned v/\Rws w' w.heap.size v (l1++c)/\Below w.heap.size w w':=by
 have z:=cell_of_row _ _ 0 _ _ _ o;have q1:=cell_of_row _ _ 1 _ _ _ o;have m:d<w.heap.size:=(Array.getElem?_eq_some_iff.1 o).1;have D:=hZ t;have E:=hZ x;obtain⟨F,I,rfl,_⟩:=t;obtain⟨H,J,rfl,_⟩:=x;have G:=fun u=>Jp u (l1.length+c.length) (by omega)
 rw[show ((l1.length+c.length:Nat):Int)=(l1.length:Int)+(c.length:Int) by omega]at G;clear o;go_enter func86,ntmps86;go_wp2;go_loop [3,11] (fun s i=>(s=.int .i64 0/\i=.int .i64 0)\/(s=.int .i64 (l1.length:Int)/\i=.int .i64 1)\/(s=.int .i64 ((l1.length:Int)+(c.length:Int))/\i=.int .i64 2)) (fun _ i=>2-(intOf i).toNat)
 case atStart=>exact .inl ⟨rfl,rfl⟩
 case round =>
  rcases hrel with ⟨rfl,rfl⟩|⟨rfl,rfl⟩|⟨rfl,rfl⟩
  .go_wp2
   exact⟨.inr (.inl ⟨by go_num,rfl⟩),by simp[intOf]⟩
  .go_wp2
   exact⟨.inr (.inr ⟨by go_num,rfl⟩),by simp[intOf]⟩
  .go_wp2_with fail
   refine (G _).mono ?_;rintro e A ⟨N,rfl,y,n⟩;clear G;have q:A.cell? ⟨d,0,none⟩=_:=(n.cell m).trans z;have r:A.cell? ⟨d,1,none⟩=_:=(n.cell m).trans q1;go_wp2_with fail;go_loopw [6,27] (fun v i wr=>(i=.int .i64 0/\Rws wr w.heap.size v []/\Below w.heap.size w wr)\/(i=.int .i64 1/\Rws wr w.heap.size v l1/\Below w.heap.size w wr)\/(i=.int .i64 2/\Rws wr w.heap.size v (l1++c)/\Below w.heap.size w wr)) (fun _ i _=>2-(intOf i).toNat)
   case atStart=>exact .inl ⟨rfl,y,n⟩
   case round =>
    clear y n q r;rcases hrel with ⟨rfl,b,a⟩|⟨rfl,b,a⟩|⟨rfl,b,a⟩
    .have q:wr.cell? ⟨d,0,none⟩=_:=(a.cell m).trans z
     have p:=a.size;go_wp2_with (at_builtin;refine gi rfl _ _ rfl w.heap.size _ (.slice F l1.length I) [] l1 rfl rfl b (D.out.below a bR) (by simp;omega) p ?_)
     intro K w3 g f;have l:Below w.heap.size w w3:=Below.grown a f a.size (fun j hj=>(World.ownsRow.lt b j hj).1);have k:=hZ g;have h:Hid _:=l;clear g f l b a q;go_wp2;exact⟨.inr (.inl ⟨rfl,k.out,h.out⟩),by simp[intOf]⟩
    .have r:wr.cell? ⟨d,1,none⟩=_:=(a.cell m).trans q1
     have p:=a.size;go_wp2_with (at_builtin;refine gi rfl _ _ rfl w.heap.size _ (.slice H c.length J) l1 c rfl rfl b (E.out.below a bR) (by omega) p ?_)
     intro K w3 g f;have l:Below w.heap.size w w3:=Below.grown a f a.size (fun j hj=>(World.ownsRow.lt b j hj).1);have k:=hZ g;have h:Hid _:=l;clear g f l b a r;go_wp2;exact⟨.inr (.inr ⟨rfl,k.out,h.out⟩),by simp[intOf]⟩
    .have k:Hid (Rws _ _ _ _):=b
     have h:Hid _:=a;clear b a;go_wp2;go_ret;exact⟨_,rfl,k.out,h.out⟩
theorem ag9 {l:List Rw} {gs:List (List Rw)}(d:da l=true) (c:gs.flatten=l) (e:∀ p ∈ gs,io p=true):wq gs:=by
 refine aw1 (fun g hgm=>?_) (by rw[c];exact yi (qg d));have:=e g hgm;unfold io at this;simp only[Bool.and_eq_true,decide_eq_true_eq]at this;obtain⟨⟨b,a⟩,_⟩:=this;refine⟨(pi.1 a).1,?_,(pi.1 a).2.1⟩
 cases g with
 | nil=>simp at b
 | cons x g=>simp
theorem am6 {g:List Rw}(h:io g=true):lnP g<=300/\0<g.length/\da g=true:=by
 unfold io at h;simp only[Bool.and_eq_true,decide_eq_true_eq]at h;refine⟨h.2,?_,h.1.2⟩
 cases g with
 | nil=>simp at h
 | cons x g=>simp

theorem Lw {gs:List (List Rw)} {k:Nat} {g:List Rw}(h:gs[k]? = some g):(gs.take (k+1)).flatten=(gs.take k).flatten++g:=by
 rw[List.take_add_one,h];simp
theorem Gi (gs:List (List Rw)) (k:Nat):(gs.take k).flatten.length<=gs.flatten.length:=by
 have h:=List.take_append_drop k gs;have:gs.flatten.length=((gs.take k)++(gs.drop k)).flatten.length:=by rw[h]
 rw[List.flatten_append,List.length_append]at this;omega
def sm (w:World) (v:Value) (gs:List (List Rw)):Prop :=
 ∃ a c,v=.slice a gs.length c/\(gs=[]\/∃ b o,a=some ⟨b,o,none⟩/\∀ (k:Nat) (g:List Rw),gs[k]? = some g->∃ (x:Option Addr) (m:Nat),w.cell? ⟨b,o+k,none⟩=some (.slice x g.length m)/\dc w x g)
theorem sm.below {w w':World} {v:Value} {gs:List (List Rw)}(h:sm w v gs) (e:Below w.heap.size w w'):sm w' v gs:=by
 obtain⟨a,c,rfl,h⟩:=h;refine⟨a,c,rfl,?_⟩;rcases h with h|⟨b,o,rfl,h⟩
 .exact .inl h
 .refine .inr ⟨b,o,rfl,fun k g hg=>?_⟩
  obtain⟨x,m,d,f⟩:=h k g hg;exact⟨x,m,(e.cell (p:=⟨b,o+k,none⟩) (ag d)).trans d,f.below e bR⟩
theorem sm.nil (w:World) (c:Nat) (a:Option Addr):sm w (.slice a 0 c) []:=⟨a,c,rfl,.inl rfl⟩
theorem Gd {w:World} {v:Value} {gs:List (List Rw)}(h:sm w v gs) (hl:gs.length<=1000) (S:gs.flatten.length<=100000) :
  Calls prog 86 #[v] w fun e w'=>∃ v,e=.returned v/\Rws w' w.heap.size v gs.flatten/\Below w.heap.size w w':=by
 have M:Hid (∀ u,Below w.heap.size w u->sm u v gs):=fun u hu=>h.below hu
 obtain⟨a,c,rfl,_⟩:=h;have G:=fun u=>Jp u gs.flatten.length (by omega)
 go_enter func86,ntmps86;go_wp2;go_loopw [3,11] (fun s i wr=>∃ k:Nat,k<=gs.length/\i=.int .i64 (k:Int)/\s=.int .i64 ((gs.take k).flatten.length:Int)/\wr=w) (fun _ i _=>gs.length-(intOf i).toNat)
 case atStart=>exact⟨0,Nat.zero_le _,rfl,rfl,rfl⟩
 case round =>
  obtain⟨k,H,rfl,rfl,rfl⟩:=hrel;by_cases p:k<gs.length
  .obtain⟨g,d⟩:∃ g,gs[k]? = some g:=by exact⟨_,List.getElem?_eq_getElem p⟩
   obtain⟨Z,c2,J,I⟩:=M.out wr bX;injection J with C _ D;subst C;subst D;rcases I with E|⟨b,o,rfl,t⟩
   .rw[E]at d;simp at d
   obtain⟨x,m,q1,_⟩:=t k g d;have L:=ag q1;have Y:(k:Int)<(gs.length:Int):=by omega
   have y:Hid ((gs.take (k+1)).flatten.length=(gs.take k).flatten.length+g.length):=by show _=_;rw[Lw d,List.length_append]
   have X:=Gi gs (k+1);rw[y.out]at X;clear t d G;generalize (gs.take k).flatten.length=n at *;generalize g.length=R at *;have a1:(0:Int)<=(n:Int)+(R:Int):=by omega
   have a3:¬ (n:Int)+(R:Int)<0:=by omega
   go_wp2;exact⟨⟨k+1,by omega,by go_num,by (first|(rw[y.out];go_num)|rfl),by (first|rfl|trivial)⟩,by simp[intOf];omega⟩
  .obtain rfl:k=gs.length:=by omega
   rw[List.take_length];have B:=G wr;clear G p H;have N:=hZ S;clear S;generalize hfn:gs.flatten.length=n at B ⊢;have a0:n<=100000:=by rw[<- hfn];exact N.out
   clear hfn;go_wp2_with fail;refine B.mono ?_;rintro e w1 ⟨v1,rfl,T,P⟩;obtain⟨f,rfl⟩:∃ f,f=wr:=⟨_,rfl⟩
   clear B;go_wp2_with fail;go_loopw [6,27] (fun v i wr=>∃ k:Nat,k<=gs.length/\i=.int .i64 (k:Int)/\Rws wr f.heap.size v (gs.take k).flatten/\Below f.heap.size f wr) (fun _ i _=>gs.length-(intOf i).toNat)
   case atStart=>exact⟨0,Nat.zero_le _,rfl,T,P⟩
   case round =>
    clear T P;obtain⟨k,H,rfl,l,z⟩:=hrel;have q:=hZ z;by_cases p:k<gs.length
    .obtain⟨g,d⟩:∃ g,gs[k]? = some g:=by exact⟨_,List.getElem?_eq_getElem p⟩
     obtain⟨Z,c2,J,I⟩:=M.out wr z;injection J with C _ D;subst C;subst D;rcases I with E|⟨b,o,rfl,t⟩
     .rw[E]at d;simp at d
     obtain⟨x,m,q1,q2⟩:=t k g d;have L:=ag q1;have Y:(k:Int)<(gs.length:Int):=by omega
     have A:Hid ((gs.take (k+1)).flatten=(gs.take k).flatten++g):=Lw d;have K:Hid ((gs.take k).flatten.length+g.length<=1048576):=by
      show _<=_
      have h1:=Gi gs (k+1);rw[A.out,List.length_append]at h1;have h2:=N.out;omega
     obtain⟨F,y⟩:∃ F,Hid ((gs.take k).flatten=F):=⟨_,rfl⟩
     rw[y.out]at l A K;have r:=hZ l;have O:Hid (SlV wr (.slice x g.length m) g):=⟨_,_,rfl,q2⟩;clear l t d q2 z;go_wp2_with (at_builtin;refine gi rfl _ _ rfl f.heap.size u6 (.slice x g.length m) F g rfl rfl r.out O.out K.out q.out.size ?_)
     intro v3 w3 U Q;have W:=hZ U;have V:Hid (Below f.heap.size f w3):=Below.grown q.out Q q.out.size (fun j hj=>(World.ownsRow.lt r.out j hj).1);clear U Q r O q q1 L;go_wp2;exact⟨⟨k+1,by omega,by go_num,by rw[A.out];exact W.out,V.out⟩,by simp[intOf];omega⟩
    .obtain rfl:k=gs.length:=by omega
     rw[List.take_length]at l;have r:=hZ l;clear l z p H;go_wp2;go_ret;exact⟨_,rfl,r.out,q.out⟩
end Go.Proofs.YtjbmgghehdemdaaGreatDoor
