/- PIdx7 -/
import Derived.Test.YtjbmgghehdemdaaGreatDoorMR13
import Derived.Test.YtjbmgghehdemdaaGreatDoorMR27
import Derived.Test.YtjbmgghehdemdaaGreatDoorMR26
import Derived.Test.YtjbmgghehdemdaaGreatDoorMR17
namespace Go.Proofs.YtjbmgghehdemdaaGreatDoor
set_option maxRecDepth 100000
set_option maxHeartbeats 16000000
open _root_.Go.Proofs.Tryz
structure Dn where
 put:Bool
 text:ByteArray
 val:ByteArray
def bh (R:RA) (x:ByteArray):ByteArray:=qf R.es R.sh R.lv x
def gn (R:RA) (x:ByteArray):Bool:=decide (x.size<=60) && decide ((bh R x).size<=200)
def Cy (R:RA) (o:Dn):Rw:=⟨bh R o.text,o.text,o.val⟩
def apC (R:RA) (l:List Rw) (o:Dn):Int :=
 if (gn R o.text && decide (o.val.size<=60))=false then 2
 else if o.put=true then (if (gz l (Cy R o)).length<=60 then 0 else 3)
 else if d9 l (bh R o.text)=true then 0 else 4
def apR (R:RA) (l:List Rw) (o:Dn):List Rw:=if o.put=true then gz l (Cy R o) else qz l (bh R o.text)
def oq (R:RA):List Rw->List Dn->Option (List Rw)
 | l,[]=>some l
 | l,o::os=>if apC R l o=0 then oq R (apR R l o) os else none
def bq (s:ByteArray):Option (Dn × Nat) :=
 if s.size=0 then none
 else if hd s 0=112 then
  (if s.size<3 then none
   else if s.size<=3+hd s 1+hd s 2 then none
   else if hd s (3+hd s 1+hd s 2)=46 then some (⟨true,s.extract 3 (3+hd s 1),s.extract (3+hd s 1) (3+hd s 1+hd s 2)⟩,3+hd s 1+hd s 2+1) else none)
 else if hd s 0=100 then
  (if s.size<2 then none
   else if s.size<=2+hd s 1 then none
   else if hd s (2+hd s 1)=46 then some (⟨false,s.extract 2 (2+hd s 1),⟨#[]⟩⟩,2+hd s 1+1) else none)
 else none
theorem wm {s:ByteArray} {o:Dn} {n:Nat}(h:bq s=some (o,n)):1<=n/\n<=s.size:=by
 unfold bq at h;split at h
 .cases h
 split at h
 .split at h
  .cases h
  split at h
  .cases h
  split at h
  .injection h with h
   injection h with _ h;omega
  .cases h
 split at h
 .split at h
  .cases h
  split at h
  .cases h
  split at h
  .injection h with h
   injection h with _ h;omega
  .cases h
 .cases h
theorem T5 {s:ByteArray} {o:Dn} {n:Nat}(h:bq s=some (o,n)):o.text.size<=255/\o.val.size<=255/\(o.put=false->o.val=⟨#[]⟩):=by
 have d:=jc s 1;have f:=jc s 2;have c:∀ a b:Nat,(s.extract a (a+b)).size<=b:=fun a b=>by rw[ByteArray.size_extract];omega
 unfold bq at h;split at h
 .cases h
 split at h
 .split at h
  .cases h
  split at h
  .cases h
  split at h
  .injection h with h
   injection h with h _;subst h;have q1:=c 3 (hd s 1);have q2:=c (3+hd s 1) (hd s 2);exact⟨by show (s.extract 3 (3+hd s 1)).size<=255;omega,by show (s.extract (3+hd s 1) (3+hd s 1+hd s 2)).size<=255;omega,fun e=>by cases e⟩
  .cases h
 split at h
 .split at h
  .cases h
  split at h
  .cases h
  split at h
  .injection h with h
   injection h with h _;subst h;have q1:=c 2 (hd s 1);exact⟨by show (s.extract 2 (2+hd s 1)).size<=255;omega,by show 0<=255;omega,fun _=>rfl⟩
  .cases h
 .cases h
def n9:Nat->ByteArray->Option (List Dn)
 | 0,s=>if s.size=0 then some [] else none
 | f+1,s=>if s.size=0 then some [] else match bq s with
  | none=>none
  | some (o,n)=>(n9 f (s.extract n s.size)).map (o::·)
def jd (s:ByteArray):Option (List Dn):=n9 s.size s
theorem li (s:ByteArray) (n:Nat):(s.extract n s.size).size=s.size-n:=by rw[ByteArray.size_extract];omega
theorem Kj:∀ (f g:Nat) (s:ByteArray),s.size<=f->s.size<=g->n9 f s=n9 g s
 | 0,0,_,_,_=>rfl
 | 0,g+1,s,h1,_=>by unfold n9;rw[if_pos (by omega),if_pos (by omega)]
 | f+1,0,s,_,h2=>by unfold n9;rw[if_pos (by omega),if_pos (by omega)]
 | f+1,g+1,s,h1,h2=>by
  unfold n9;by_cases h0:s.size=0
  .rw[if_pos h0,if_pos h0]
  .rw[if_neg h0,if_neg h0]
   cases hr:bq s with
   | none=>rfl
   | some p =>
    obtain⟨o,n⟩:=p;have a:=wm hr;have b:=li s n;show (n9 f (s.extract n s.size)).map _=(n9 g (s.extract n s.size)).map _
    rw[Kj f g (s.extract n s.size) (by omega) (by omega)]
theorem O0 {s:ByteArray}(h:s.size=0):jd s=some []:=by unfold jd;rw[h];unfold n9;rw[if_pos h]
theorem Ki {s:ByteArray}(h0:s.size≠0) (h:bq s=none):jd s=none:=by
 unfold jd;obtain⟨m,a⟩:∃ m,s.size=m+1:=⟨s.size-1,by omega⟩
 rw[a];unfold n9;rw[if_neg h0,h]
theorem Cm {s:ByteArray} {o:Dn} {n:Nat}(h:bq s=some (o,n)):jd s=(jd (s.extract n s.size)).map (o::·):=by
 have b:=wm h;have c:=li s n;unfold jd;obtain⟨m,a⟩:∃ m,s.size=m+1:=⟨s.size-1,by omega⟩
 rw[show n9 s.size s=n9 (m+1) s by rw[a]];show (if s.size=0 then some [] else match bq s with|none=>none|some (o,n)=>(n9 m (s.extract n s.size)).map (o::·))=_
 rw[if_neg (by omega),h];show (n9 m (s.extract n s.size)).map _=_
 rw[Kj m _ (s.extract n s.size) (by omega) bR]
def pj (R:RA) (l:List Rw) (s:ByteArray):Option (List Rw):=(jd s).bind (oq R l)
theorem ag6 {R:RA} {l:List Rw} {s:ByteArray}(h:s.size=0):pj R l s=some l:=by unfold pj;rw[O0 h];rfl
theorem a31 {R:RA} {l:List Rw} {s:ByteArray}(h0:s.size≠0) (h:bq s=none):pj R l s=none:=by unfold pj;rw[Ki h0 h];rfl
theorem Ot {R:RA} {l:List Rw} {s:ByteArray} {o:Dn} {n:Nat}(h:bq s=some (o,n)) (a:apC R l o≠0):pj R l s=none:=by
 unfold pj;rw[Cm h]
 cases jd (s.extract n s.size) with
 | none=>rfl
 | some os=>show oq R l (o::os)=none;unfold oq;rw[if_neg a]
theorem a33 {R:RA} {l:List Rw} {s:ByteArray} {o:Dn} {n:Nat}(h:bq s=some (o,n)) (a:apC R l o=0):pj R l s=pj R (apR R l o) (s.extract n s.size):=by
 unfold pj;rw[Cm h]
 cases jd (s.extract n s.size) with
 | none=>rfl
 | some os=>show oq R l (o::os)=oq R (apR R l o) os;rw[oq,if_pos a]
def iy (R:RA) (l:List Rw):Bool:=l.all fun x=>decide (bh R x.text=x.key)
def dx (R:RA) (pages:List ByteArray) (log:ByteArray):Option (List Rw) :=
 match ca pages with
 | none=>none
 | some gs=>if R.code=0/\iy R gs.flatten=true/\log.size<=6000 then pj R gs.flatten log else none
structure im (R:RA) (l:List Rw):Prop where
 rise:lm l
 len:l.length<=60
 sz:∀ x ∈ l,x.text.size<=60/\x.val.size<=60/\x.key.size<=200
 key:∀ x ∈ l,bh R x.text=x.key
theorem a68 {R:RA} {l:List Rw} {o:Dn}(h:apC R l o=0):gn R o.text=true/\o.val.size<=60/\(o.put=true->(gz l (Cy R o)).length<=60)/\(o.put=false->d9 l (bh R o.text)=true):=by
 unfold apC at h;split at h
 .cases h
 rename_i hf
 have a:(gn R o.text && decide (o.val.size<=60))=true:=by simpa using hf
 rw[Bool.and_eq_true,decide_eq_true_eq]at a;split at h
 .rename_i hp
  split at h
  .rename_i hl
   exact⟨a.1,a.2,fun _=>hl,fun e=>by rw[hp]at e;cases e⟩
  .cases h
 .rename_i hp
  split at h
  .rename_i ht
   exact⟨a.1,a.2,fun e=>absurd e hp,fun _=>ht⟩
  .cases h
theorem vk {R:RA} {x:ByteArray}(h:gn R x=true):x.size<=60/\(bh R x).size<=200:=by
 unfold gn at h;rw[Bool.and_eq_true,decide_eq_true_eq,decide_eq_true_eq]at h;exact h
theorem im.step {R:RA} {l:List Rw} {o:Dn}(h:im R l) (i:apC R l o=0):im R (apR R l o):=by
 obtain⟨d,e,f,g⟩:=a68 i;unfold apR
 cases hp:o.put
 .rw[if_neg (by simp)]
  have j:=g hp;have b:=Yn l (bh R o.text);exact⟨wl ((wo h.rise).sublist b),Nat.le_trans b.length_le h.len,fun x a=>h.sz x (b.subset a),fun x a=>h.key x (b.subset a)⟩
 .rw[if_pos rfl]
  have c:=vk d;refine⟨wl (an6 (wo h.rise)),f hp,fun x a=>?_,fun x a=>?_⟩
  .rcases Nl a with rfl|a
   .exact⟨c.1,e,c.2⟩
   .exact h.sz x a
  .rcases Nl a with rfl|a
   .rfl
   .exact h.key x a
theorem im.run {R:RA}:∀ (os:List Dn){l l':List Rw},im R l->oq R l os=some l'->im R l'
 | [],l,l',h,hr=>by cases hr;exact h
 | o::os,l,l',h,hr=>by
  unfold oq at hr;split at hr
  .rename_i hc
   exact im.run os (h.step hc) hr
  .cases hr
def q9 (pages:List ByteArray):Prop:=∀ gs,ca pages=some gs->gs.flatten.length<=60/\∀ x ∈ gs.flatten,x.text.size<=60/\x.val.size<=60
theorem W2 {R:RA} {a:List ByteArray} {log:ByteArray} {l:List Rw}(b:q9 a) (h:dx R a log=some l):im R l:=by
 unfold dx at h
 cases hb:ca a with
 | none=>rw[hb]at h;cases h
 | some gs =>
  rw[hb]at h;simp only at h;split at h
  .rename_i hc
   have d:=(uz hb).1;have f:im R gs.flatten:=by
    refine⟨wl d.pw,(b gs hb).1,fun x hx=>?_,fun x hx=>?_⟩
    .obtain⟨g,i,e⟩:=List.mem_flatten.1 hx
     have c:=(oh.1 (d.good g i).1).2.1 x e;unfold sz1 at c;rw[Bool.and_eq_true,Bool.and_eq_true,decide_eq_true_eq]at c;exact⟨((b gs hb).2 x hx).1,((b gs hb).2 x hx).2,c.1.1⟩
    .have:=List.all_eq_true.1 hc.2.1 x hx
     simpa using this
   unfold pj at h
   cases hl:jd log with
   | none=>rw[hl]at h;cases h
   | some os=>rw[hl]at h;exact f.run os h
  .cases h
open Go.RowKit
structure Ev7 (w:World) (pb pl pf pn:Addr):Prop where
 bad:w.cell? ⟨0,0,none⟩=some (.iface 298 (.pointer (some pb)))
 long:w.cell? ⟨1,0,none⟩=some (.iface 298 (.pointer (some pl)))
 full:w.cell? ⟨2,0,none⟩=some (.iface 298 (.pointer (some pf)))
 none_:w.cell? ⟨3,0,none⟩=some (.iface 298 (.pointer (some pn)))
theorem Ev7.below {w w':World} {pb pl pf pn:Addr}(h:Ev7 w pb pl pf pn) (a:Below w.heap.size w w'):Ev7 w' pb pl pf pn :=
 ⟨(a.cell (p:=⟨0,0,none⟩) (ag h.bad)).trans h.bad,(a.cell (p:=⟨1,0,none⟩) (ag h.long)).trans h.long,(a.cell (p:=⟨2,0,none⟩) (ag h.full)).trans h.full,(a.cell (p:=⟨3,0,none⟩) (ag h.none_)).trans h.none_⟩
theorem po {B:Nat} {w u:World}(h:Below B w u) (n:Nat):Below B w (u.drewN n):=⟨h.os,h.tape,h.output,h.size,h.block⟩
structure Ru7 (w:World) (B:Nat) (ve:Value) (R:RA):Prop where
 ents:ac w B ve R.es
 ok:ay R.es R.lv=true
 tabs:dr w
theorem Ru7.below {w w':World} {B:Nat} {b:Value} {R:RA}(h:Ru7 w B b R) (a:Below w.heap.size w w'):Ru7 w' B b R:=⟨h.ents.below a,h.ok,h.tabs.below a⟩
theorem nd {R:RA}(h:ay R.es R.lv=true):∀ e ∈ R.es,e.runes.length<=1048576:=fun e he=>by
 have:=eg ((cg h).2.2 e he).1;omega
theorem Ru7.form {w:World} {B:Nat} {b:Value} {R:RA}(h:Ru7 w B b R):∃ a c,b=.slice a R.es.length c:=by
 rcases h.ents.form with ⟨rfl,d⟩|⟨_,_,rfl,_,_,_,_⟩
 .rw[d];exact⟨_,_,rfl⟩
 .exact⟨_,_,rfl⟩
theorem gd {R:RA}(h:ay R.es R.lv=true){x:ByteArray}(a:x.size<=200):okE R.es R.lv x=true:=by unfold okE;rw[Km a,h];rfl
def jf (u:World) (p:Nat) (v:Value) (sh:Bool) (lv:Int):Prop:=u.heap[p]? = some (.cells #[v,.bool sh,.int .i64 lv] 56)
theorem jf.below {u u':World} {p:Nat} {v:Value} {sh:Bool} {lv:Int}(h:jf u p v sh lv) (a:Below u.heap.size u u'):jf u' p v sh lv:=(a.block p (Array.getElem?_eq_some_iff.1 h).1).trans h
theorem jf.facts {u:World} {p:Nat} {v:Value} {sh:Bool} {lv:Int}(h:jf u p v sh lv):p<u.heap.size/\u.cell? ⟨p,0,none⟩=some v/\u.cell? ⟨p,1,none⟩=some (.bool sh)/\u.cell? ⟨p,2,none⟩=some (.int .i64 lv) :=
 ⟨(Array.getElem?_eq_some_iff.1 h).1,cell_of_row _ _ 0 _ _ _ h,cell_of_row _ _ 1 _ _ _ h,cell_of_row _ _ 2 _ _ _ h⟩
theorem nw {w:World} {B:Nat} {h:Value} {R:RA} {pb pl pf pn:Addr}(x:ByteArray) (m:x.size<=1048576) (b:Ru7 w B h R) (d:Ev7 w pb pl pf pn) :
  Calls prog 49 #[.agg #[h,.bool R.sh,.int .i64 R.lv],.string x] w fun e w' =>
   e=.returned (if x.size<=60 then .tuple #[.string (bh R x),.nilIface] else .tuple #[.string ⟨#[]⟩,.iface 298 (.pointer (some pl))])/\Below w.heap.size w w':=by
 obtain⟨n,o,rfl⟩:=b.form;have a:=(Below.refl w.heap.size w).alloc bR (.cells #[.slice n R.es.length o,.bool R.sh,.int .i64 R.lv] 56);by_cases f:x.size<=60
 .rw[if_pos f]
  have j:¬ (60:Int)<(x.size:Int):=by omega
  have K:=t7 (sh:=R.sh) (lv:=R.lv) x m (b.ents.below a) (nd b.ok) (b.tabs.below a);rw[gd b.ok (by omega)]at K;have k:Hid (qf R.es R.sh R.lv x=bh R x):=rfl;rw[k.out]at K;have c:Hid (Below w.heap.size w _):=a;generalize bh R x=key at *;clear b d a;go_enter func49,ntmps49;go_wp2_with fail;refine K.mono ?_;rintro e q ⟨rfl,g⟩;have i:=hZ (c.out.trans (g.mono c.out.size));clear K g;go_wp2;go_ret2;exact⟨rfl,i.out⟩
 .rw[if_neg f]
  have j:(60:Int)<(x.size:Int):=by omega
  have l:=(d.below a).long;have p:=ag l;have c:Hid (Below w.heap.size w _):=a;clear b d a;go_enter func49,ntmps49;go_wp2;go_quiet (fail)
  go_wp2;go_ret2;exact⟨rfl,po c.out _⟩
theorem Ws {w:World} {B:Nat} {k:Value} {R:RA} {pb pl pf pn:Addr}(x:ByteArray) (p:x.size<=1048576) (g:Ru7 w B k R) (h:Ev7 w pb pl pf pn) :
  Calls prog 94 #[.agg #[k,.bool R.sh,.int .i64 R.lv],.string x] w fun e w' =>
   e=.returned (if gn R x=true then .tuple #[.string (bh R x),.nilIface] else .tuple #[.string ⟨#[]⟩,.iface 298 (.pointer (some pl))])/\Below w.heap.size w w':=by
 obtain⟨q,r,rfl⟩:=g.form;have c:=(Below.refl w.heap.size w).alloc bR (.cells #[.slice q R.es.length r,.bool R.sh,.int .i64 R.lv] 56);have T:=nw x p (g.below c) (h.below c);have d:Hid (Below w.heap.size w _):=c;have n:Hid (Ev7 _ pb pl pf pn):=h.below c;by_cases i:x.size<=60
 .rw[if_pos i]at T
  by_cases j:(bh R x).size<=200
  .have b:gn R x=true:=by unfold gn;rw[decide_eq_true i,decide_eq_true j];rfl
   rw[if_pos b];have m:¬ (200:Int)<((bh R x).size:Int):=by omega
   clear g h c b;generalize bh R x=key at *;go_enter func94,ntmps94;go_wp2_with fail;refine T.mono ?_;rintro e l ⟨rfl,a⟩;have f:=hZ (d.out.trans (a.mono d.out.size));clear T a;go_wp2;go_ret2;exact⟨rfl,f.out⟩
  .have b:¬ gn R x=true:=by unfold gn;rw[decide_eq_false j,Bool.and_false];simp
   rw[if_neg b];have m:(200:Int)<((bh R x).size:Int):=by omega
   clear g h c b;generalize bh R x=key at *;go_enter func94,ntmps94;go_wp2_with fail;refine T.mono ?_;rintro e l ⟨rfl,a⟩;have f:=hZ (d.out.trans (a.mono d.out.size));have o:=(n.out.below a).long;have s:=ag o;clear T a;go_wp2;go_quiet (fail)
   go_wp2;go_ret2;exact⟨rfl,po f.out _⟩
 .rw[if_neg i]at T
  have b:¬ gn R x=true:=by unfold gn;rw[decide_eq_false i,Bool.false_and];simp
  rw[if_neg b];clear g h c b;go_enter func94,ntmps94;go_wp2_with fail;refine T.mono ?_;rintro e l ⟨rfl,a⟩;have f:=hZ (d.out.trans (a.mono d.out.size));clear T a;go_wp2;go_ret2;exact⟨rfl,f.out⟩
theorem ab9 {R:RA} {l:List Rw} {k:Nat} {x:Rw}(h:l[k]? = some x) (a:bh R x.text≠x.key):iy R l=false:=by
 unfold iy;rw[List.all_eq_false];exact⟨x,List.mem_of_getElem? h,by simpa using a⟩
theorem Zr {R:RA} {l:List Rw}(h:∀ (j:Nat) (x:Rw),j<l.length->l[j]? = some x->bh R x.text=x.key):iy R l=true:=by
 unfold iy;rw[List.all_eq_true];intro x b;obtain⟨j,a,rfl⟩:=List.getElem_of_mem b;exact decide_eq_true (h j _ a (List.getElem?_eq_getElem a))
theorem Zo {w:World} {B:Nat} {Z:Value} {R:RA} {a:Option Addr} {c:Nat} {l:List Rw}(hl:l.length<=1048576) (U:∀ x ∈ l,x.text.size<=200) (E:Ru7 w B Z R) (T:dd w a l) :
  Calls prog 87 #[.agg #[Z,.bool R.sh,.int .i64 R.lv],.slice a l.length c] w fun e w'=>e=.returned (.bool (iy R l))/\Below w.heap.size w w':=by
 obtain⟨F,G,rfl⟩:=E.form;have s:=(Below.refl w.heap.size w).alloc bR (.cells #[.slice F R.es.length G,.bool R.sh,.int .i64 R.lv] 56);obtain⟨W,A⟩:∃ W,W=w.alloc (.cells #[.slice F R.es.length G,.bool R.sh,.int .i64 R.lv] 56):=⟨_,rfl⟩
 have I:jf W w.heap.size (.slice F R.es.length G) R.sh R.lv:=by rw[A];exact heap_alloc_new w _
 rw[<- A]at s;have a0:=hZ I;have v:=hZ (E.below s);have HS:Hid (∀ u,Below W.heap.size W u->dd u a l):=fun u hu=>(T.below s bR).below hu bR
 have HZ:=hZ U;have t:=hZ s;have N:=hZ A;clear E T U s I A;go_enter func87,ntmps87;go_wp2_with fail;rw[<- N.out];clear N;go_loopw [11] (fun i wr=>∃ k:Nat,k<=l.length/\i=.int .i64 (k:Int)/\Hid (∀ (j:Nat) (x:Rw),j<k->l[j]? = some x->bh R x.text=x.key)/\Below W.heap.size W wr) (fun i _=>l.length-(intOf i).toNat)
 case atStart=>exact⟨0,Nat.zero_le _,rfl,fun j x hj=>by omega,bX⟩
 case round =>
  obtain⟨k,hk,rfl,r,n⟩:=hrel;by_cases a7:k<l.length
  .obtain⟨y,p⟩:∃ y,l[k]? = some y:=by exact⟨_,List.getElem?_eq_getElem a7⟩
   have z:=hZ p;have a4:=HS.out wr n;rcases a4 with h|⟨b,o,rfl,S⟩
   .rw[h]at p;simp at p
   obtain⟨D,P,Q⟩:=S k y p;have a8:=ag D;have a9:(k:Int)<(l.length:Int):=by omega
   have O:Below wr.heap.size wr (wr.alloc (.cells #[.string y.key,.string y.text,.string y.val] 37)):=bY _;have q:=n.trans (O.mono n.size);have M:=HZ.out y (List.mem_of_getElem? p);have K:=t7 (sh:=R.sh) (lv:=R.lv) y.text (by omega) (v.out.below q).ents (nd v.out.ok) (v.out.below q).tabs;rw[gd v.out.ok M]at K;obtain⟨L,V,X,Y⟩:=(a0.out.below q).facts;have g:Hid (di (wr.alloc (.cells #[.string y.key,.string y.text,.string y.val] 37)) wr.heap.size y):=ky wr y;have f:=hZ q;have H:Hid (qf R.es R.sh R.lv y.text=bh R y.text):=rfl;rw[H.out]at K;clear S p n O q H M;by_cases m:bh R y.text=y.key
   .have a2:Hid (∀ (j:Nat) (x:Rw),j<k+1->l[j]? = some x->bh R x.text=x.key):=fun j x hj hx=>by
     by_cases a6:j<k
     .exact r.out j x a6 hx
     .obtain rfl:j=k:=by omega
      rw[z.out]at hx;obtain rfl:=Option.some.inj hx;exact m
    rw[m]at K;clear m r;go_wp2_with fail;refine K.mono ?_;rintro e w2 ⟨rfl,d⟩;obtain⟨d0,d1,d2⟩:=(g.out.below d).cells;have a5:=(g.out.below d).lt;have C:=hZ (f.out.trans (d.mono f.out.size));clear K d D P Q V X Y L g f;go_wp2;exact⟨⟨k+1,by omega,by go_num,a2.out,C.out⟩,by simp[intOf];omega⟩
   .have J:=ab9 z.out m
    have aa:=xp m;have a3:=hZ J;clear J m r;generalize bh R y.text=key at *;go_wp2_with fail;refine K.mono ?_;rintro e w2 ⟨rfl,d⟩;obtain⟨d0,d1,d2⟩:=(g.out.below d).cells;have a5:=(g.out.below d).lt;have C:=hZ (t.out.trans ((f.out.trans (d.mono f.out.size)).mono t.out.size));clear K d D P Q V X Y L g f;go_wp2;go_ret;exact⟨by (rw[a3.out];try rfl),C.out⟩
  .obtain rfl:k=l.length:=by omega
   have z:Hid (iy R l=true):=Zr r.out;have a1:=hZ (t.out.trans (n.mono t.out.size));clear n r;go_wp2;go_ret;exact⟨by (rw[z.out];try rfl),a1.out⟩
theorem ao0 {R:RA}(h:ay R.es R.lv=true){x:ByteArray}(a:x.size<=200):bh R x=ix (Np R.es R.sh R.lv (rn4 x)):=by
 unfold bh qf;rw[if_pos (gd h a)]
theorem Cj {w:World} {B:Nat} {H:Value} {R:RA}(x:ByteArray) (X:x.size<=1048576) (k:ac w B H R.es) (a:ay R.es R.lv=true) :
  Calls prog 78 #[.agg #[H,.bool R.sh,.int .i64 R.lv],.string x] w fun e w'=>e=.returned (.tuple #[.string (if x.size<=60 then bh R x else ⟨#[]⟩),.bool (gn R x)])/\Below w.heap.size w w':=by
 obtain⟨d,f,rfl⟩:=cu k;have m:Below w.heap.size w (w.alloc (.cells #[.slice d R.es.length f,.bool R.sh,.int .i64 R.lv] 56)):=bY _;have j:=hZ m;have l:Bv (w.alloc (.cells #[.slice d R.es.length f,.bool R.sh,.int .i64 R.lv] 56)) w.heap.size (.slice d R.es.length f) R.sh R.lv:=heap_alloc_new w _;have A:w.heap.size<(w.alloc (.cells #[.slice d R.es.length f,.bool R.sh,.int .i64 R.lv] 56)).heap.size:=by simp
 by_cases h:x.size<=60
 .rw[if_pos h]
  have i:=Ia x (w.alloc (.cells #[.slice d R.es.length f,.bool R.sh,.int .i64 R.lv] 56)) (by omega);have q:=Km (s:=x) (show x.size<=200 by omega);rw[q]at i;have M:¬ (60:Int)<(x.size:Int):=by omega
  have C:Hid (ac _ _ _ _):=k.below m;have r:=Dy x;have Q:R.es.length<=1048576:=by have:=(nn a).1;omega
  obtain⟨_,O,P⟩:=nn a;have z:=rd a r;obtain⟨n,hn⟩:∃ n:Nat,R.lv=(n:Int):=⟨R.lv.toNat,by omega⟩
  have o:=ao0 a (x:=x) (by omega);have V:=(yg q).2;have L:Hid (∀ e ∈ R.es,e.runes.length<=1048576):=nd a;have g:Hid (gn R x=decide ((bh R x).size<=200)):=by show _=_;unfold gn;rw[decide_eq_true h,Bool.true_and]
  rw[hn]at l o O P;have J:=hZ o.symm;have K:Hid _:=r;have I:Hid _:=z;rw[hn]at i j A C ⊢;generalize bh R x=key at *;clear k a o q r z m hn;go_enter func78,ntmps78;go_wp2_with fail;refine i.mono ?_;rintro e Z ⟨Y,rfl,G,c⟩;have y:=l.below c A;obtain⟨S,T,U⟩:=y.cells;have W:=c.size;have D:=G (by omega);have t:=No (sh:=R.sh) (n:=n) (C.out.below c) Q L.out D (by omega) K.out (by omega) (by omega) I.out;rw[J.out]at t;have u:=hZ (j.out.trans (c.mono j.out.size));clear i G D l y c;go_wp2_with fail;refine t.mono ?_;rintro e w3 ⟨rfl,E⟩;have v:=hZ (u.out.trans (E.mono u.out.size));clear t S T U E;by_cases F:key.size<=200
  .have p:(key.size:Int)<=200:=by omega
   have b:Hid (gn R x=true):=by show _=_;rw[g.out,decide_eq_true F]
   clear g;go_wp2;go_ret2;exact⟨by (rw[b.out];try rfl),v.out⟩
  .have p:¬ (key.size:Int)<=200:=by omega
   have b:Hid (gn R x=false):=by show _=_;rw[g.out,decide_eq_false F]
   have N:decide ((key.size:Int)<=200)=false:=decide_eq_false p;clear g;go_wp2;go_ret2;exact⟨by (rw[b.out];first|rfl|(rw[<- N];rfl)|simp[Act.eval,p]),v.out⟩
 .rw[if_neg h]
  have M:(60:Int)<(x.size:Int):=by omega
  have b:Hid (gn R x=false):=by show _=_;unfold gn;rw[decide_eq_false h,Bool.false_and]
  clear k a;go_enter func78,ntmps78;go_wp2;go_ret2;exact⟨by (rw[b.out];try rfl),j.out⟩
theorem yv {B:Nat} {w u:World}(h:Below B w u) (n:Nat):Below B w (u.drewN n):=⟨h.os,h.tape,h.output,h.size,h.block⟩
theorem Sa {l:List Rw} {key:ByteArray} {k:Nat}(a:az l key=k):d9 l key=(decide (k<l.length) && decide ((dh l k).key=key)):=by
 unfold d9;rw[a];congr 1
 exact decide_eq_decide.2 (ya _ _)
theorem Dl {w:World} {a:Option Addr} {c:Nat} {l:List Rw}(key:ByteArray) (x:dd w a l) (I:l.length<=1048576) (z:lm l) :
  Calls prog 82 #[.slice a l.length c,.string key] w fun e w'=>e=.returned (.tuple #[.int .i64 (az l key:Int),.bool (d9 l key)])/\Below w.heap.size w w':=by
 obtain⟨P,p⟩:∃ P,P=az l key:=⟨_,rfl⟩
 obtain⟨q1,q2,q3⟩:=n6 key z;rw[<- p]at q1 q2 q3;have t:=Sa p.symm;have v:Hid (∀ u,Below w.heap.size w u->dd u a l):=fun u hu=>x.below hu bR
 have A:Hid (∀ (k:Nat) (y:Rw),k<P->l[k]? = some y->ltK y.key key=true):=fun k y r b=>by have:=q2 k r;rw[mx b]at this;exact this
 have B:Hid (∀ y,l[P]? = some y->ltK y.key key=false):=fun y b=>by have:=q3 P bR (List.getElem?_eq_some_iff.1 b).1;rw[mx b]at this;exact this
 have m:=hZ t;rw[<- p];clear x z q2 q3 t p;go_enter func82,ntmps82;go_wp2_with fail;go_loopw [6] (fun i wr=>∃ k:Nat,k<=P/\i=.int .i64 (k:Int)/\wr=w) (fun i _=>l.length-(intOf i).toNat)
 case atStart=>exact⟨0,Nat.zero_le _,rfl,rfl⟩
 case round =>
  obtain⟨k,r,rfl,rfl⟩:=hrel;by_cases s:k<P
  .obtain⟨y,b⟩:∃ y,l[k]? = some y:=by exact⟨_,List.getElem?_eq_getElem (by omega)⟩
   rcases v.out wr bX with h|⟨E,F,rfl,g⟩
   .rw[h]at b;simp at b
   obtain⟨o,_,_⟩:=g k y b;have C:=ag o;have D:(k:Int)<(l.length:Int):=by omega
   have n:ltK y.key key=true:=A.out k y s b;unfold ltK at n;clear g b;go_wp2;exact⟨⟨k+1,by omega,by go_num,by (first|rfl|trivial)⟩,by simp[intOf];omega⟩
  .obtain rfl:k=P:=by omega
   clear s r;by_cases q:k<l.length
   .obtain⟨y,b⟩:∃ y,l[k]? = some y:=by exact⟨_,List.getElem?_eq_getElem q⟩
    rcases v.out wr bX with h|⟨E,F,rfl,g⟩
    .rw[h]at b;simp at b
    obtain⟨o,_,_⟩:=g k y b;have C:=ag o;have D:(k:Int)<(l.length:Int):=by omega
    have n:ltK y.key key=false:=B.out y b;unfold ltK at n;have d:=m.out;rw[mx b,decide_eq_true q,Bool.true_and]at d;by_cases f:y.key=key
    .rw[decide_eq_true f]at d
     have j:=hZ d;rw[f]at o n;clear g b f d m;go_wp2;go_quiet (fail)
     go_wp2;go_ret2;exact⟨by (rw[j.out];try rfl),yv bX _⟩
    .rw[decide_eq_false f]at d
     have j:=hZ d;have G:=xp f;clear g b f d m;go_wp2;go_quiet (fail)
     go_wp2;go_ret2;exact⟨by (rw[j.out];try rfl),yv bX _⟩
   .have d:=m.out
    rw[decide_eq_false q,Bool.false_and]at d;have j:=hZ d;clear d m;go_wp2;have H:decide ((k:Int)<(l.length:Int))=false:=decide_eq_false (by omega);go_quiet (fail)
    go_wp2;go_ret2;exact⟨by (rw[j.out];try rfl),yv bX _⟩
def kn7 (o:Dn):Int:=if o.put=true then 1 else 2
def dnC (o:Dn):List Value:=[.int .i64 (kn7 o),.string o.text,.string o.val]
def qx (l:List Dn):List Value:=l.flatMap dnC
theorem Mp (a b:List Dn):qx (a++b)=qx a++qx b:=by simp[qx]
theorem a86 (es:List Dn) (k i:Nat) (e:Dn) (h:es[k]? = some e) (hi:i<3):(qx es)[k*3+i]? = (dnC e)[i]?:=by
 induction es generalizing k with
 | nil=>simp at h
 | cons x es ih =>
  show (dnC x++qx es)[k*3+i]? = _
  cases k with
  | zero =>
   simp at h;subst h;rw[Nat.zero_mul,Nat.zero_add,List.getElem?_append_left (by show i<3;exact hi)]
  | succ k =>
   have b:es[k]? = some e:=by simpa using h
   rw[List.getElem?_append_right (by show 3<=_;omega)];have a:(k+1)*3+i-(dnC x).length=k*3+i:=by show (k+1)*3+i-3=_;omega
   rw[a];exact ih k b
def Dos (w:World) (B:Nat) (v:Value) (l:List Dn):Prop:=w.ownsRow B 27 3 v l.length (qx l)
theorem Dos.form {w:World} {B:Nat} {v:Value} {es:List Dn}(h:Dos w B v es):(v=.slice none 0 0/\es=[])\/∃ g cap,v=.slice (some ⟨g,0,none⟩) es.length cap/\es.length<=cap/\cap<=maxLen:=by
 rcases h.2 with ⟨a,b⟩|⟨g,cap,f,a,b,c,d,e,_⟩
 .exact .inl ⟨a,List.eq_nil_of_length_eq_zero b⟩
 .exact .inr ⟨g,cap,a,d,e⟩
theorem a88 {w:World} {B:Nat} {v:Value} {l:List Dn}(h:Dos w B v l):∃ a c,v=.slice a l.length c:=by
 rcases h.form with ⟨rfl,rfl⟩|⟨g,c,rfl,_,_⟩
 .exact⟨_,_,rfl⟩
 .exact⟨_,_,rfl⟩
theorem Dos.cells {w:World} {B g cap:Nat} {es:List Dn}(h:Dos w B (.slice (some ⟨g,0,none⟩) es.length cap) es) (k:Nat) (e:Dn) (b:es[k]? = some e) :
  w.cell? ⟨g,k*3,none⟩=some (.int .i64 (kn7 e))/\w.cell? ⟨g,k*3+1,none⟩=some (.string e.text)/\w.cell? ⟨g,k*3+2,none⟩=some (.string e.val):=by
 have c:=(List.getElem?_eq_some_iff.1 b).1;have a:∀ i,i<3->w.cell? ⟨g,k*3+i,none⟩=(dnC e)[i]?:=fun i hi=>by
  rw[World.ownsRow.cellAt h (k*3+i) (by omega),a86 es k i e b hi]
 exact⟨a 0 (by omega),a 1 (by omega),a 2 (by omega)⟩
theorem Dos.below {w w':World} {B:Nat} {v:Value} {es:List Dn}(h:Dos w B v es) (a:Below w.heap.size w w'):Dos w' B v es :=
 World.ownsRow.kept h (row:=none) ⟨a.os,a.tape,a.output,a.size,fun k hk _=>a.block k hk⟩ (by cases h:v.ownBlock <;> simp)
theorem am4 {W:World} {B:Nat} {v:Value} {l:List Dn} {x:Dn}(h:W.ownsRow B 27 3 v (l.length+1) (qx l++dnC x)):Dos W B v (l++[x]):=by
 unfold Dos;have a:(l++[x]).length=l.length+1:=by simp
 have b:qx (l++[x])=qx l++dnC x:=by rw[Mp];simp[qx]
 rw[a,b];exact h
theorem an5:(prog.info? 27).map (fun i=>(i.zero,i.size,i.bytes))=some (some (.agg #[.int .i64 0,.string ⟨#[]⟩,.string ⟨#[]⟩]),3,40):=by kernel_rfl
def gi (u:World) (p:Nat) (k:Int) (x y:ByteArray):Prop:=u.heap[p]? = some (.cells #[.int .i64 k,.string x,.string y] 27)
theorem gi.below {u u':World} {p:Nat} {k:Int} {x y:ByteArray}(h:gi u p k x y) (a:Below u.heap.size u u'):gi u' p k x y:=(a.block p (Array.getElem?_eq_some_iff.1 h).1).trans h
theorem gi.facts {u:World} {p:Nat} {k:Int} {x y:ByteArray}(h:gi u p k x y):p<u.heap.size/\u.cell? ⟨p,0,none⟩=some (.int .i64 k)/\u.cell? ⟨p,1,none⟩=some (.string x)/\u.cell? ⟨p,2,none⟩=some (.string y) :=
 ⟨(Array.getElem?_eq_some_iff.1 h).1,cell_of_row _ _ 0 _ _ _ h,cell_of_row _ _ 1 _ _ _ h,cell_of_row _ _ 2 _ _ _ h⟩
def af6:Option (Dn × Nat)->Value
 | none=>.tuple #[.agg #[.int .i64 0,.string ⟨#[]⟩,.string ⟨#[]⟩],.int .i64 0]
 | some (o,n)=>.tuple #[.agg #[.int .i64 (kn7 o),.string o.text,.string o.val],.int .i64 (n:Int)]
theorem ch {B:Nat} {w u:World}(h:Below B w u) (n:Nat):Below B w (u.drewN n):=⟨h.os,h.tape,h.output,h.size,h.block⟩
theorem St (s:ByteArray) (a:Nat):s.extract a a=⟨#[]⟩:=by
 apply ByteArray.ext
 simp
theorem Yk (w:World):(w.alloc (.cells #[.int .i64 0,.string ⟨#[]⟩,.string ⟨#[]⟩] 27)).cell? ⟨w.heap.size,0,none⟩=some (.int .i64 0)/\(w.alloc (.cells #[.int .i64 0,.string ⟨#[]⟩,.string ⟨#[]⟩] 27)).cell? ⟨w.heap.size,1,none⟩=some (.string ⟨#[]⟩)/\(w.alloc (.cells #[.int .i64 0,.string ⟨#[]⟩,.string ⟨#[]⟩] 27)).cell? ⟨w.heap.size,2,none⟩=some (.string ⟨#[]⟩)/\∀ j,(w.alloc (.cells #[.int .i64 0,.string ⟨#[]⟩,.string ⟨#[]⟩] 27)).frozen? ⟨w.heap.size,j,none⟩=false:=by
 have h:=heap_alloc_new w (.cells #[.int .i64 0,.string ⟨#[]⟩,.string ⟨#[]⟩] 27);exact⟨cell_of_row _ _ 0 _ _ _ h,cell_of_row _ _ 1 _ _ _ h,cell_of_row _ _ 2 _ _ _ h,fun j=>frozen_of_row _ _ j _ _ h⟩
theorem ap8 (s:ByteArray) (w:World) (h0:0<s.size) (J:s.size<=1048576) :
  Calls prog 97 #[.string s] w fun e w'=>e=.returned (af6 (bq s))/\Below w.heap.size w w':=by
 have x:∀ u:World,(Instr.index 9 (.string s) (.int .i64 0)).run prog u=.ok (.int .u8 (hd s 0:Int)) u:=d5 s 0 (by omega)
 have i:Hid (∀ o:Obj,Below w.heap.size w (w.alloc o)):=fun o=>bY o
 obtain⟨F,G,H,I⟩:=Yk w;have E:w.heap.size<(w.alloc (.cells #[.int .i64 0,.string ⟨#[]⟩,.string ⟨#[]⟩] 27)).heap.size:=by simp
 have j:¬ s.size=0:=by omega
 have K:=jc s 1;have L:=jc s 2;by_cases h:hd s 0=112
 .rw[h]at x
  by_cases k:s.size<3
  .have d:bq s=none:=by unfold bq;rw[if_neg j,if_pos h,if_pos k]
   have r:(s.size:Int)<3:=by omega
   rw[d];show Calls prog 97 #[.string s] w fun e w'=>e=.returned (.tuple #[.agg #[.int .i64 0,.string ⟨#[]⟩,.string ⟨#[]⟩],.int .i64 0])/\Below w.heap.size w w'
   clear d;go_enter func97,ntmps97;go_wp2;refine bodyPost_ret (v:=.tuple #[.agg #[.int .i64 0,.string ⟨#[]⟩,.string ⟨#[]⟩],.int .i64 0]) ?_ rfl ⟨rfl,by repeat (first|exact i.out _|refine Below.drew ?_|refine ch ?_ _)⟩;rw[results_cell_tmp rfl];go_simp
  have r:¬ (s.size:Int)<3:=by omega
  have D:∀ u:World,(Instr.index 9 (.string s) (.int .i64 1)).run prog u=.ok (.int .u8 (hd s 1:Int)) u:=d5 s 1 (by omega)
  have Q:∀ u:World,(Instr.index 9 (.string s) (.int .i64 2)).run prog u=.ok (.int .u8 (hd s 2:Int)) u:=d5 s 2 (by omega)
  have u1:IntKind.i64.wrap (hd s 1:Int)=(hd s 1:Int):=by rw[IntKind.wrap_i64];omega
  have u2:IntKind.i64.wrap (hd s 2:Int)=(hd s 2:Int):=by rw[IntKind.wrap_i64];omega
  by_cases l:s.size<=3+hd s 1+hd s 2
  .have d:bq s=none:=by unfold bq;rw[if_neg j,if_pos h,if_neg k,if_pos l]
   rw[d];show Calls prog 97 #[.string s] w fun e w'=>e=.returned (.tuple #[.agg #[.int .i64 0,.string ⟨#[]⟩,.string ⟨#[]⟩],.int .i64 0])/\Below w.heap.size w w'
   clear d;generalize hd s 1=a at *;generalize hd s 2=b at *;have p:(s.size:Int)<=3+(a:Int)+(b:Int):=by omega
   have d:True:=trivial;clear d;go_enter func97,ntmps97;go_wp2;refine bodyPost_ret (v:=.tuple #[.agg #[.int .i64 0,.string ⟨#[]⟩,.string ⟨#[]⟩],.int .i64 0]) ?_ rfl ⟨rfl,by repeat (first|exact i.out _|refine Below.drew ?_|refine ch ?_ _)⟩;rw[results_cell_tmp rfl];go_simp
  have m:∀ u:World,(Instr.index 9 (.string s) (.int .i64 ((3+hd s 1+hd s 2:Nat):Int))).run prog u=.ok (.int .u8 (hd s (3+hd s 1+hd s 2):Int)) u:=d5 s _ (by omega)
  have t:=jc s (3+hd s 1+hd s 2);have A:=s.size;by_cases f:hd s (3+hd s 1+hd s 2)=46
  .have d:bq s=some (⟨true,s.extract 3 (3+hd s 1),s.extract (3+hd s 1) (3+hd s 1+hd s 2)⟩,3+hd s 1+hd s 2+1):=by unfold bq;rw[if_neg j,if_pos h,if_neg k,if_neg l,if_pos f]
   rw[d];show Calls prog 97 #[.string s] w fun e w'=>e=.returned (.tuple #[.agg #[.int .i64 1,.string (s.extract 3 (3+hd s 1)),.string (s.extract (3+hd s 1) (3+hd s 1+hd s 2))],.int .i64 ((3+hd s 1+hd s 2+1:Nat):Int)])/\Below w.heap.size w w'
   rw[f]at m;clear d f t;generalize hd s 1=a at *;generalize hd s 2=b at *;have p:¬ (s.size:Int)<=3+(a:Int)+(b:Int):=by omega
   have g:((3+a+b:Nat):Int)=3+(a:Int)+(b:Int):=by omega
   have q:((3+a+b+1:Nat):Int)=3+(a:Int)+(b:Int)+1:=by omega
   rw[g]at m;rw[q];clear g q;have B:∀ u:World,(Instr.slice 9 (.string s) (some (.int .i64 3)) (some (.int .i64 (3+(a:Int)))) none).run prog u=.ok (.string (s.extract 3 (3+a))) u:=fun u=>m5 s _ _ _ _ (by omega) (by omega) (by omega) (by omega) u
   have C:∀ u:World,(Instr.slice 9 (.string s) (some (.int .i64 (3+(a:Int)))) (some (.int .i64 (3+(a:Int)+(b:Int)))) none).run prog u=.ok (.string (s.extract (3+a) (3+a+b))) u:=fun u=>m5 s _ _ _ _ (by omega) (by omega) (by omega) (by omega) u
   generalize s.extract 3 (3+a)=e1 at *;generalize s.extract (3+a) (3+a+b)=e2 at *;go_enter func97,ntmps97;go_upto_region 15 with fail
   go_region
   all_goals
    go_wp2;refine bodyPost_ret (v:=.tuple #[.agg #[.int .i64 1,.string e1,.string e2],.int .i64 (3+(a:Int)+(b:Int)+1)]) ?_ rfl ⟨rfl,by repeat (first|exact i.out _|refine Below.drew ?_|refine ch ?_ _)⟩;rw[results_cell_tmp rfl];go_simp
  .have d:bq s=none:=by unfold bq;rw[if_neg j,if_pos h,if_neg k,if_neg l,if_neg f]
   rw[d];show Calls prog 97 #[.string s] w fun e w'=>e=.returned (.tuple #[.agg #[.int .i64 0,.string ⟨#[]⟩,.string ⟨#[]⟩],.int .i64 0])/\Below w.heap.size w w'
   clear d;generalize hd s (3+hd s 1+hd s 2)=c at *;generalize hd s 1=a at *;generalize hd s 2=b at *;have p:¬ (s.size:Int)<=3+(a:Int)+(b:Int):=by omega
   have g:((3+a+b:Nat):Int)=3+(a:Int)+(b:Int):=by omega
   rw[g]at m;have y:¬ (c:Int)=46:=by omega
   have z:((c:Int) != 46)=true:=by simp;omega
   clear g f;have d:True:=trivial;clear d;go_enter func97,ntmps97;go_wp2;refine bodyPost_ret (v:=.tuple #[.agg #[.int .i64 0,.string ⟨#[]⟩,.string ⟨#[]⟩],.int .i64 0]) ?_ rfl ⟨rfl,by repeat (first|exact i.out _|refine Below.drew ?_|refine ch ?_ _)⟩;rw[results_cell_tmp rfl];go_simp
 .by_cases n:hd s 0=100
  .rw[n]at x
   by_cases k:s.size<2
   .have d:bq s=none:=by unfold bq;rw[if_neg j,if_neg h,if_pos n,if_pos k]
    have r:(s.size:Int)<2:=by omega
    rw[d];show Calls prog 97 #[.string s] w fun e w'=>e=.returned (.tuple #[.agg #[.int .i64 0,.string ⟨#[]⟩,.string ⟨#[]⟩],.int .i64 0])/\Below w.heap.size w w'
    clear d;go_enter func97,ntmps97;go_wp2;refine bodyPost_ret (v:=.tuple #[.agg #[.int .i64 0,.string ⟨#[]⟩,.string ⟨#[]⟩],.int .i64 0]) ?_ rfl ⟨rfl,by repeat (first|exact i.out _|refine Below.drew ?_|refine ch ?_ _)⟩;rw[results_cell_tmp rfl];go_simp
   have r:¬ (s.size:Int)<2:=by omega
   have D:∀ u:World,(Instr.index 9 (.string s) (.int .i64 1)).run prog u=.ok (.int .u8 (hd s 1:Int)) u:=d5 s 1 (by omega)
   have u1:IntKind.i64.wrap (hd s 1:Int)=(hd s 1:Int):=by rw[IntKind.wrap_i64];omega
   by_cases l:s.size<=2+hd s 1
   .have d:bq s=none:=by unfold bq;rw[if_neg j,if_neg h,if_pos n,if_neg k,if_pos l]
    rw[d];show Calls prog 97 #[.string s] w fun e w'=>e=.returned (.tuple #[.agg #[.int .i64 0,.string ⟨#[]⟩,.string ⟨#[]⟩],.int .i64 0])/\Below w.heap.size w w'
    clear d;generalize hd s 1=a at *;have p:(s.size:Int)<=2+(a:Int):=by omega
    have d:True:=trivial;clear d;go_enter func97,ntmps97;go_wp2;refine bodyPost_ret (v:=.tuple #[.agg #[.int .i64 0,.string ⟨#[]⟩,.string ⟨#[]⟩],.int .i64 0]) ?_ rfl ⟨rfl,by repeat (first|exact i.out _|refine Below.drew ?_|refine ch ?_ _)⟩;rw[results_cell_tmp rfl];go_simp
   have m:∀ u:World,(Instr.index 9 (.string s) (.int .i64 ((2+hd s 1:Nat):Int))).run prog u=.ok (.int .u8 (hd s (2+hd s 1):Int)) u:=d5 s _ (by omega)
   have t:=jc s (2+hd s 1);have A:=s.size;by_cases f:hd s (2+hd s 1)=46
   .have d:bq s=some (⟨false,s.extract 2 (2+hd s 1),⟨#[]⟩⟩,2+hd s 1+1):=by unfold bq;rw[if_neg j,if_neg h,if_pos n,if_neg k,if_neg l,if_pos f]
    rw[d];show Calls prog 97 #[.string s] w fun e w'=>e=.returned (.tuple #[.agg #[.int .i64 2,.string (s.extract 2 (2+hd s 1)),.string ⟨#[]⟩],.int .i64 ((2+hd s 1+1:Nat):Int)])/\Below w.heap.size w w'
    rw[f]at m;clear d f t;generalize hd s 1=a at *;have p:¬ (s.size:Int)<=2+(a:Int):=by omega
    have g:((2+a:Nat):Int)=2+(a:Int):=by omega
    have q:((2+a+1:Nat):Int)=2+(a:Int)+1:=by omega
    rw[g]at m;rw[q];clear g q;have B:∀ u:World,(Instr.slice 9 (.string s) (some (.int .i64 2)) (some (.int .i64 (2+(a:Int)))) none).run prog u=.ok (.string (s.extract 2 (2+a))) u:=fun u=>m5 s _ _ _ _ (by omega) (by omega) (by omega) (by omega) u
    have C:∀ u:World,(Instr.slice 9 (.string s) (some (.int .i64 (2+(a:Int)))) (some (.int .i64 (2+(a:Int)))) none).run prog u=.ok (.string ⟨#[]⟩) u:=fun u=>by rw[m5 s _ _ (2+a) (2+a) (by omega) (by omega) (by omega) (by omega) u,St]
    generalize s.extract 2 (2+a)=e1 at *;go_enter func97,ntmps97;go_upto_region 15 with fail
    go_region
    all_goals
     go_wp2;refine bodyPost_ret (v:=.tuple #[.agg #[.int .i64 2,.string e1,.string ⟨#[]⟩],.int .i64 (2+(a:Int)+1)]) ?_ rfl ⟨rfl,by repeat (first|exact i.out _|refine Below.drew ?_|refine ch ?_ _)⟩;rw[results_cell_tmp rfl];go_simp
   .have d:bq s=none:=by unfold bq;rw[if_neg j,if_neg h,if_pos n,if_neg k,if_neg l,if_neg f]
    rw[d];show Calls prog 97 #[.string s] w fun e w'=>e=.returned (.tuple #[.agg #[.int .i64 0,.string ⟨#[]⟩,.string ⟨#[]⟩],.int .i64 0])/\Below w.heap.size w w'
    clear d;generalize hd s (2+hd s 1)=c at *;generalize hd s 1=a at *;have p:¬ (s.size:Int)<=2+(a:Int):=by omega
    have g:((2+a:Nat):Int)=2+(a:Int):=by omega
    rw[g]at m;have y:¬ (c:Int)=46:=by omega
    have z:((c:Int) != 46)=true:=by simp;omega
    clear g f;have d:True:=trivial;clear d;go_enter func97,ntmps97;go_wp2;refine bodyPost_ret (v:=.tuple #[.agg #[.int .i64 0,.string ⟨#[]⟩,.string ⟨#[]⟩],.int .i64 0]) ?_ rfl ⟨rfl,by repeat (first|exact i.out _|refine Below.drew ?_|refine ch ?_ _)⟩;rw[results_cell_tmp rfl];go_simp
  .have d:bq s=none:=by unfold bq;rw[if_neg j,if_neg h,if_neg n]
   have M:¬ (hd s 0:Int)=112:=by omega
   have N:¬ (hd s 0:Int)=100:=by omega
   have O:((hd s 0:Int) == 112)=false:=by simp;omega
   have P:((hd s 0:Int) == 100)=false:=by simp;omega
   rw[d];show Calls prog 97 #[.string s] w fun e w'=>e=.returned (.tuple #[.agg #[.int .i64 0,.string ⟨#[]⟩,.string ⟨#[]⟩],.int .i64 0])/\Below w.heap.size w w'
   clear d;go_enter func97,ntmps97;go_wp2;refine bodyPost_ret (v:=.tuple #[.agg #[.int .i64 0,.string ⟨#[]⟩,.string ⟨#[]⟩],.int .i64 0]) ?_ rfl ⟨rfl,by repeat (first|exact i.out _|refine Below.drew ?_|refine ch ?_ _)⟩;rw[results_cell_tmp rfl];go_simp
def io (s:ByteArray):Option (Dn × Nat) :=
 match bq s with
 | none=>none
 | some (o,n)=>if o.text.size<=60/\o.val.size<=60 then some (o,n) else none
theorem lr {s:ByteArray}(h:bq s=none):io s=none:=by unfold io;rw[h]
theorem Hw {s:ByteArray} {o:Dn} {n:Nat}(h:bq s=some (o,n)) (a:¬ (o.text.size<=60/\o.val.size<=60)):io s=none:=by
 unfold io;rw[h];show (if _ then _ else _)=none
 rw[if_neg a]
theorem Cx {s:ByteArray} {o:Dn} {n:Nat}(h:bq s=some (o,n)) (a:o.text.size<=60/\o.val.size<=60):io s=some (o,n):=by
 unfold io;rw[h];show (if _ then _ else _)=_
 rw[if_pos a]
theorem af5 {s:ByteArray}(h:s.size<2):bq s=none:=by
 unfold bq;by_cases a:s.size=0
 .rw[if_pos a]
 rw[if_neg a];by_cases b:hd s 0=112
 .rw[if_pos b,if_pos (by omega)]
 rw[if_neg b];by_cases c:hd s 0=100
 .rw[if_pos c,if_pos (by omega)]
 .rw[if_neg c]
theorem wh (s:ByteArray) (a b:Nat) (h:a+b<=s.size):(s.extract a (a+b)).size=b:=by rw[ByteArray.size_extract];omega
theorem Ku {s:ByteArray}(a:¬ s.size=0) (e:hd s 0=112) (d:¬ s.size<3) (l:60<hd s 1\/60<hd s 2):io s=none:=by
 by_cases b:s.size<=3+hd s 1+hd s 2
 .exact lr (by unfold bq;rw[if_neg a,if_pos e,if_neg d,if_pos b])
 by_cases f:hd s (3+hd s 1+hd s 2)=46
 .have g:bq s=some (⟨true,s.extract 3 (3+hd s 1),s.extract (3+hd s 1) (3+hd s 1+hd s 2)⟩,3+hd s 1+hd s 2+1):=by unfold bq;rw[if_neg a,if_pos e,if_neg d,if_neg b,if_pos f]
  refine Hw g fun c=>?_
  have j:=wh s 3 (hd s 1) (by omega);have k:=wh s (3+hd s 1) (hd s 2) (by omega);have h:(s.extract 3 (3+hd s 1)).size<=60:=c.1;have i:(s.extract (3+hd s 1) (3+hd s 1+hd s 2)).size<=60:=c.2;omega
 .exact lr (by unfold bq;rw[if_neg a,if_pos e,if_neg d,if_neg b,if_neg f])
theorem Wm {s:ByteArray}(b:¬ s.size=0) (f:¬ hd s 0=112) (a:hd s 0=100) (e:¬ s.size<2) (k:60<hd s 1):io s=none:=by
 by_cases d:s.size<=2+hd s 1
 .exact lr (by unfold bq;rw[if_neg b,if_neg f,if_pos a,if_neg e,if_pos d])
 by_cases g:hd s (2+hd s 1)=46
 .have h:bq s=some (⟨false,s.extract 2 (2+hd s 1),⟨#[]⟩⟩,2+hd s 1+1):=by unfold bq;rw[if_neg b,if_neg f,if_pos a,if_neg e,if_neg d,if_pos g]
  refine Hw h fun c=>?_
  have j:=wh s 2 (hd s 1) (by omega);have i:(s.extract 2 (2+hd s 1)).size<=60:=c.1;omega
 .exact lr (by unfold bq;rw[if_neg b,if_neg f,if_pos a,if_neg e,if_neg d,if_neg g])
theorem ah6 (s:ByteArray) (w:World) (h0:0<s.size) (N:s.size<=1048576) :
  Calls prog 48 #[.string s] w fun e w'=>e=.returned (af6 (io s))/\Below w.heap.size w w':=by
 have f:Hid (∀ o:Obj,Below w.heap.size w (w.alloc o)):=fun o=>bY o
 obtain⟨J,K,L,M⟩:=Yk w;have I:w.heap.size<(w.alloc (.cells #[.int .i64 0,.string ⟨#[]⟩,.string ⟨#[]⟩] 27)).heap.size:=by simp
 have j:¬ s.size=0:=by omega
 have O:=jc s 1;have P:=jc s 2;by_cases F:s.size<2
 .have d:io s=none:=lr (af5 F)
  have C:(s.size:Int)<2:=by omega
  rw[d];show Calls prog 48 #[.string s] w fun e w'=>e=.returned (.tuple #[.agg #[.int .i64 0,.string ⟨#[]⟩,.string ⟨#[]⟩],.int .i64 0])/\Below w.heap.size w w'
  clear d;go_enter func48,ntmps48;go_wp2;refine bodyPost_ret (v:=.tuple #[.agg #[.int .i64 0,.string ⟨#[]⟩,.string ⟨#[]⟩],.int .i64 0]) ?_ rfl ⟨rfl,by repeat (first|exact f.out _|refine Below.alloc ?_ (by simp) _|refine Below.setCell ?_ bR _|refine Below.drew ?_|refine ch ?_ _)⟩;rw[results_cell_tmp rfl];go_simp
 have C:¬ (s.size:Int)<2:=by omega
 have y:∀ u:World,(Instr.index 9 (.string s) (.int .i64 0)).run prog u=.ok (.int .u8 (hd s 0:Int)) u:=d5 s 0 (by omega)
 by_cases g:hd s 0=112
 .rw[g]at y
  by_cases k:s.size<3
  .have d:io s=none:=lr (by unfold bq;rw[if_neg j,if_pos g,if_pos k])
   have B:(s.size:Int)<3:=by omega
   rw[d];show Calls prog 48 #[.string s] w fun e w'=>e=.returned (.tuple #[.agg #[.int .i64 0,.string ⟨#[]⟩,.string ⟨#[]⟩],.int .i64 0])/\Below w.heap.size w w'
   clear d;go_enter func48,ntmps48;go_wp2;refine bodyPost_ret (v:=.tuple #[.agg #[.int .i64 0,.string ⟨#[]⟩,.string ⟨#[]⟩],.int .i64 0]) ?_ rfl ⟨rfl,by repeat (first|exact f.out _|refine Below.alloc ?_ (by simp) _|refine Below.setCell ?_ bR _|refine Below.drew ?_|refine ch ?_ _)⟩;rw[results_cell_tmp rfl];go_simp
  have B:¬ (s.size:Int)<3:=by omega
  have H:∀ u:World,(Instr.index 9 (.string s) (.int .i64 1)).run prog u=.ok (.int .u8 (hd s 1:Int)) u:=d5 s 1 (by omega)
  have U:∀ u:World,(Instr.index 9 (.string s) (.int .i64 2)).run prog u=.ok (.int .u8 (hd s 2:Int)) u:=d5 s 2 (by omega)
  have u1:IntKind.i64.wrap (hd s 1:Int)=(hd s 1:Int):=by rw[IntKind.wrap_i64];omega
  have u2:IntKind.i64.wrap (hd s 2:Int)=(hd s 2:Int):=by rw[IntKind.wrap_i64];omega
  by_cases x:60<hd s 1
  .have d:io s=none:=Ku j g k (.inl x)
   rw[d];show Calls prog 48 #[.string s] w fun e w'=>e=.returned (.tuple #[.agg #[.int .i64 0,.string ⟨#[]⟩,.string ⟨#[]⟩],.int .i64 0])/\Below w.heap.size w w'
   clear d;generalize hd s 1=a at *;generalize hd s 2=b at *;have l:(60:Int)<(a:Int):=by omega
   go_enter func48,ntmps48;go_wp2;refine bodyPost_ret (v:=.tuple #[.agg #[.int .i64 0,.string ⟨#[]⟩,.string ⟨#[]⟩],.int .i64 0]) ?_ rfl ⟨rfl,by repeat (first|exact f.out _|refine Below.alloc ?_ (by simp) _|refine Below.setCell ?_ bR _|refine Below.drew ?_|refine ch ?_ _)⟩;rw[results_cell_tmp rfl];go_simp
  by_cases G:60<hd s 2
  .have d:io s=none:=Ku j g k (.inr G)
   rw[d];show Calls prog 48 #[.string s] w fun e w'=>e=.returned (.tuple #[.agg #[.int .i64 0,.string ⟨#[]⟩,.string ⟨#[]⟩],.int .i64 0])/\Below w.heap.size w w'
   clear d;generalize hd s 1=a at *;generalize hd s 2=b at *;have l:¬ (60:Int)<(a:Int):=by omega
   have t:(60:Int)<(b:Int):=by omega
   go_enter func48,ntmps48;go_wp2;refine bodyPost_ret (v:=.tuple #[.agg #[.int .i64 0,.string ⟨#[]⟩,.string ⟨#[]⟩],.int .i64 0]) ?_ rfl ⟨rfl,by repeat (first|exact f.out _|refine Below.alloc ?_ (by simp) _|refine Below.setCell ?_ bR _|refine Below.drew ?_|refine ch ?_ _)⟩;rw[results_cell_tmp rfl];go_simp
  by_cases m:s.size<=3+hd s 1+hd s 2
  .have d:io s=none:=lr (by unfold bq;rw[if_neg j,if_pos g,if_neg k,if_pos m])
   rw[d];show Calls prog 48 #[.string s] w fun e w'=>e=.returned (.tuple #[.agg #[.int .i64 0,.string ⟨#[]⟩,.string ⟨#[]⟩],.int .i64 0])/\Below w.heap.size w w'
   clear d;generalize hd s 1=a at *;generalize hd s 2=b at *;have l:¬ (60:Int)<(a:Int):=by omega
   have t:¬ (60:Int)<(b:Int):=by omega
   have q:(s.size:Int)<3+(a:Int)+(b:Int)+1:=by omega
   go_enter func48,ntmps48;go_wp2;refine bodyPost_ret (v:=.tuple #[.agg #[.int .i64 0,.string ⟨#[]⟩,.string ⟨#[]⟩],.int .i64 0]) ?_ rfl ⟨rfl,by repeat (first|exact f.out _|refine Below.alloc ?_ (by simp) _|refine Below.setCell ?_ bR _|refine Below.drew ?_|refine ch ?_ _)⟩;rw[results_cell_tmp rfl];go_simp
  have n:∀ u:World,(Instr.index 9 (.string s) (.int .i64 ((3+hd s 1+hd s 2:Nat):Int))).run prog u=.ok (.int .u8 (hd s (3+hd s 1+hd s 2):Int)) u:=d5 s _ (by omega)
  by_cases h:hd s (3+hd s 1+hd s 2)=46
  .have d:io s=some (⟨true,s.extract 3 (3+hd s 1),s.extract (3+hd s 1) (3+hd s 1+hd s 2)⟩,3+hd s 1+hd s 2+1):=Cx (by unfold bq;rw[if_neg j,if_pos g,if_neg k,if_neg m,if_pos h]) ⟨by have:=wh s 3 (hd s 1) (by omega);show (s.extract 3 (3+hd s 1)).size<=60;omega,by have:=wh s (3+hd s 1) (hd s 2) (by omega);show (s.extract (3+hd s 1) (3+hd s 1+hd s 2)).size<=60;omega⟩
   rw[d];show Calls prog 48 #[.string s] w fun e w'=>e=.returned (.tuple #[.agg #[.int .i64 1,.string (s.extract 3 (3+hd s 1)),.string (s.extract (3+hd s 1) (3+hd s 1+hd s 2))],.int .i64 ((3+hd s 1+hd s 2+1:Nat):Int)])/\Below w.heap.size w w'
   rw[h]at n;clear d h;generalize hd s 1=a at *;generalize hd s 2=b at *;have l:¬ (60:Int)<(a:Int):=by omega
   have t:¬ (60:Int)<(b:Int):=by omega
   have q:¬ (s.size:Int)<3+(a:Int)+(b:Int)+1:=by omega
   have i:((3+a+b:Nat):Int)=3+(a:Int)+(b:Int):=by omega
   have r:((3+a+b+1:Nat):Int)=3+(a:Int)+(b:Int)+1:=by omega
   rw[i]at n;rw[r];clear i r;have D:∀ u:World,(Instr.slice 9 (.string s) (some (.int .i64 3)) (some (.int .i64 (3+(a:Int)))) none).run prog u=.ok (.string (s.extract 3 (3+a))) u:=fun u=>m5 s _ _ _ _ (by omega) (by omega) (by omega) (by omega) u
   have E:∀ u:World,(Instr.slice 9 (.string s) (some (.int .i64 (3+(a:Int)))) (some (.int .i64 (3+(a:Int)+(b:Int)))) none).run prog u=.ok (.string (s.extract (3+a) (3+a+b))) u:=fun u=>m5 s _ _ _ _ (by omega) (by omega) (by omega) (by omega) u
   generalize s.extract 3 (3+a)=e1 at *;generalize s.extract (3+a) (3+a+b)=e2 at *;go_enter func48,ntmps48;go_wp2;refine bodyPost_ret (v:=.tuple #[.agg #[.int .i64 1,.string e1,.string e2],.int .i64 (3+(a:Int)+(b:Int)+1)]) ?_ rfl ⟨rfl,by repeat (first|exact f.out _|refine Below.alloc ?_ (by simp) _|refine Below.setCell ?_ bR _|refine Below.drew ?_|refine ch ?_ _)⟩;rw[results_cell_tmp rfl];go_simp
  .have d:io s=none:=lr (by unfold bq;rw[if_neg j,if_pos g,if_neg k,if_neg m,if_neg h])
   rw[d];show Calls prog 48 #[.string s] w fun e w'=>e=.returned (.tuple #[.agg #[.int .i64 0,.string ⟨#[]⟩,.string ⟨#[]⟩],.int .i64 0])/\Below w.heap.size w w'
   clear d;generalize hd s (3+hd s 1+hd s 2)=c at *;generalize hd s 1=a at *;generalize hd s 2=b at *;have l:¬ (60:Int)<(a:Int):=by omega
   have t:¬ (60:Int)<(b:Int):=by omega
   have q:¬ (s.size:Int)<3+(a:Int)+(b:Int)+1:=by omega
   have i:((3+a+b:Nat):Int)=3+(a:Int)+(b:Int):=by omega
   rw[i]at n;have z:¬ (c:Int)=46:=by omega
   have A:((c:Int) != 46)=true:=by simp;omega
   clear i h;go_enter func48,ntmps48;go_wp2;refine bodyPost_ret (v:=.tuple #[.agg #[.int .i64 0,.string ⟨#[]⟩,.string ⟨#[]⟩],.int .i64 0]) ?_ rfl ⟨rfl,by repeat (first|exact f.out _|refine Below.alloc ?_ (by simp) _|refine Below.setCell ?_ bR _|refine Below.drew ?_|refine ch ?_ _)⟩;rw[results_cell_tmp rfl];go_simp
 .by_cases p:hd s 0=100
  .rw[p]at y
   have k:¬ s.size<2:=by omega
   have H:∀ u:World,(Instr.index 9 (.string s) (.int .i64 1)).run prog u=.ok (.int .u8 (hd s 1:Int)) u:=d5 s 1 (by omega)
   have u1:IntKind.i64.wrap (hd s 1:Int)=(hd s 1:Int):=by rw[IntKind.wrap_i64];omega
   by_cases x:60<hd s 1
   .have d:io s=none:=Wm j g p k x
    rw[d];show Calls prog 48 #[.string s] w fun e w'=>e=.returned (.tuple #[.agg #[.int .i64 0,.string ⟨#[]⟩,.string ⟨#[]⟩],.int .i64 0])/\Below w.heap.size w w'
    clear d;generalize hd s 1=a at *;have l:(60:Int)<(a:Int):=by omega
    go_enter func48,ntmps48;go_wp2;refine bodyPost_ret (v:=.tuple #[.agg #[.int .i64 0,.string ⟨#[]⟩,.string ⟨#[]⟩],.int .i64 0]) ?_ rfl ⟨rfl,by repeat (first|exact f.out _|refine Below.alloc ?_ (by simp) _|refine Below.setCell ?_ bR _|refine Below.drew ?_|refine ch ?_ _)⟩;rw[results_cell_tmp rfl];go_simp
   by_cases m:s.size<=2+hd s 1
   .have d:io s=none:=lr (by unfold bq;rw[if_neg j,if_neg g,if_pos p,if_neg k,if_pos m])
    rw[d];show Calls prog 48 #[.string s] w fun e w'=>e=.returned (.tuple #[.agg #[.int .i64 0,.string ⟨#[]⟩,.string ⟨#[]⟩],.int .i64 0])/\Below w.heap.size w w'
    clear d;generalize hd s 1=a at *;have l:¬ (60:Int)<(a:Int):=by omega
    have q:(s.size:Int)<2+(a:Int)+1:=by omega
    go_enter func48,ntmps48;go_wp2;refine bodyPost_ret (v:=.tuple #[.agg #[.int .i64 0,.string ⟨#[]⟩,.string ⟨#[]⟩],.int .i64 0]) ?_ rfl ⟨rfl,by repeat (first|exact f.out _|refine Below.alloc ?_ (by simp) _|refine Below.setCell ?_ bR _|refine Below.drew ?_|refine ch ?_ _)⟩;rw[results_cell_tmp rfl];go_simp
   have n:∀ u:World,(Instr.index 9 (.string s) (.int .i64 ((2+hd s 1:Nat):Int))).run prog u=.ok (.int .u8 (hd s (2+hd s 1):Int)) u:=d5 s _ (by omega)
   by_cases h:hd s (2+hd s 1)=46
   .have d:io s=some (⟨false,s.extract 2 (2+hd s 1),⟨#[]⟩⟩,2+hd s 1+1):=Cx (by unfold bq;rw[if_neg j,if_neg g,if_pos p,if_neg k,if_neg m,if_pos h]) ⟨by have:=wh s 2 (hd s 1) (by omega);show (s.extract 2 (2+hd s 1)).size<=60;omega,by show 0<=60;omega⟩
    rw[d];show Calls prog 48 #[.string s] w fun e w'=>e=.returned (.tuple #[.agg #[.int .i64 2,.string (s.extract 2 (2+hd s 1)),.string ⟨#[]⟩],.int .i64 ((2+hd s 1+1:Nat):Int)])/\Below w.heap.size w w'
    rw[h]at n;clear d h;generalize hd s 1=a at *;have l:¬ (60:Int)<(a:Int):=by omega
    have q:¬ (s.size:Int)<2+(a:Int)+1:=by omega
    have i:((2+a:Nat):Int)=2+(a:Int):=by omega
    have r:((2+a+1:Nat):Int)=2+(a:Int)+1:=by omega
    rw[i]at n;rw[r];clear i r;have D:∀ u:World,(Instr.slice 9 (.string s) (some (.int .i64 2)) (some (.int .i64 (2+(a:Int)))) none).run prog u=.ok (.string (s.extract 2 (2+a))) u:=fun u=>m5 s _ _ _ _ (by omega) (by omega) (by omega) (by omega) u
    have E:∀ u:World,(Instr.slice 9 (.string s) (some (.int .i64 (2+(a:Int)))) (some (.int .i64 (2+(a:Int)))) none).run prog u=.ok (.string ⟨#[]⟩) u:=fun u=>by rw[m5 s _ _ (2+a) (2+a) (by omega) (by omega) (by omega) (by omega) u,St]
    generalize s.extract 2 (2+a)=e1 at *;go_enter func48,ntmps48;go_wp2;refine bodyPost_ret (v:=.tuple #[.agg #[.int .i64 2,.string e1,.string ⟨#[]⟩],.int .i64 (2+(a:Int)+1)]) ?_ rfl ⟨rfl,by repeat (first|exact f.out _|refine Below.alloc ?_ (by simp) _|refine Below.setCell ?_ bR _|refine Below.drew ?_|refine ch ?_ _)⟩;rw[results_cell_tmp rfl];go_simp
   .have d:io s=none:=lr (by unfold bq;rw[if_neg j,if_neg g,if_pos p,if_neg k,if_neg m,if_neg h])
    rw[d];show Calls prog 48 #[.string s] w fun e w'=>e=.returned (.tuple #[.agg #[.int .i64 0,.string ⟨#[]⟩,.string ⟨#[]⟩],.int .i64 0])/\Below w.heap.size w w'
    clear d;generalize hd s (2+hd s 1)=c at *;generalize hd s 1=a at *;have l:¬ (60:Int)<(a:Int):=by omega
    have q:¬ (s.size:Int)<2+(a:Int)+1:=by omega
    have i:((2+a:Nat):Int)=2+(a:Int):=by omega
    rw[i]at n;have z:¬ (c:Int)=46:=by omega
    have A:((c:Int) != 46)=true:=by simp;omega
    clear i h;go_enter func48,ntmps48;go_wp2;refine bodyPost_ret (v:=.tuple #[.agg #[.int .i64 0,.string ⟨#[]⟩,.string ⟨#[]⟩],.int .i64 0]) ?_ rfl ⟨rfl,by repeat (first|exact f.out _|refine Below.alloc ?_ (by simp) _|refine Below.setCell ?_ bR _|refine Below.drew ?_|refine ch ?_ _)⟩;rw[results_cell_tmp rfl];go_simp
  .have d:io s=none:=lr (by unfold bq;rw[if_neg j,if_neg g,if_neg p])
   have Q:¬ (hd s 0:Int)=112:=by omega
   have R:¬ (hd s 0:Int)=100:=by omega
   have S:((hd s 0:Int) != 112)=true:=by simp;omega
   have T:((hd s 0:Int) != 100)=true:=by simp;omega
   rw[d];show Calls prog 48 #[.string s] w fun e w'=>e=.returned (.tuple #[.agg #[.int .i64 0,.string ⟨#[]⟩,.string ⟨#[]⟩],.int .i64 0])/\Below w.heap.size w w'
   clear d;go_enter func48,ntmps48;go_wp2;refine bodyPost_ret (v:=.tuple #[.agg #[.int .i64 0,.string ⟨#[]⟩,.string ⟨#[]⟩],.int .i64 0]) ?_ rfl ⟨rfl,by repeat (first|exact f.out _|refine Below.alloc ?_ (by simp) _|refine Below.setCell ?_ bR _|refine Below.drew ?_|refine ch ?_ _)⟩;rw[results_cell_tmp rfl];go_simp
def ks:Nat->ByteArray->Nat
 | 0,_=>0
 | f+1,s=>match bq s with
  | none=>0
  | some (_,n)=>n+ks f (s.extract n s.size)
def jm (s:ByteArray):Nat:=ks s.size s
theorem Oo {s:ByteArray}(h:s.size=0):bq s=none:=by unfold bq;rw[if_pos h]
theorem Fe:∀ (f g:Nat) (s:ByteArray),s.size<=f->s.size<=g->ks f s=ks g s
 | 0,0,_,_,_=>rfl
 | 0,g+1,s,h1,_=>by rw[ks,ks,Oo (by omega)]
 | f+1,0,s,_,h2=>by rw[ks,ks,Oo (by omega)]
 | f+1,g+1,s,h1,h2=>by
  rw[ks,ks]
  cases hr:bq s with
  | none=>rfl
  | some p =>
   obtain⟨o,n⟩:=p;have a:=wm hr;have b:=li s n;show n+ks f (s.extract n s.size)=n+ks g (s.extract n s.size)
   rw[Fe f g (s.extract n s.size) (by omega) (by omega)]
theorem Xp {s:ByteArray}(h:bq s=none):jm s=0:=by
 unfold jm
 cases s.size with
 | zero=>rfl
 | succ m=>rw[ks,h]
theorem Xo {s:ByteArray} {o:Dn} {n:Nat}(h:bq s=some (o,n)):jm s=n+jm (s.extract n s.size):=by
 have b:=wm h;have c:=li s n;unfold jm;obtain⟨m,a⟩:∃ m,s.size=m+1:=⟨s.size-1,by omega⟩
 rw[show ks s.size s=ks (m+1) s by rw[a],ks,h];show n+ks m (s.extract n s.size)=_
 rw[Fe m _ (s.extract n s.size) (by omega) bR]
theorem Kv (s:ByteArray) (a n:Nat):(s.extract a s.size).extract n (s.extract a s.size).size=s.extract (a+n) s.size:=by
 rw[li];apply ByteArray.ext
 apply Array.toList_inj.1
 have e:=fun (t:ByteArray) (i j:Nat)=>xg t i j
 rw[e,e,e,List.drop_take,List.drop_drop,List.take_take];congr 1
 omega
def at3 (w:World) (ty:TypeId) (pv:Value):Prop:=w.cell? ⟨0,0,none⟩=some (.iface ty pv)
def ay8 (w:World) (s:ByteArray) (v i:Value) (wr:World):Prop :=
 ∃ (k:Nat) (os:List Dn),k<=s.size/\i=.int .i64 (k:Int)/\Dos wr w.heap.size v os/\os.length<=k/\jd s=(jd (s.extract k s.size)).map (os++·)/\jm s=k+jm (s.extract k s.size)/\Below w.heap.size w wr
theorem ao2 {s:ByteArray} {k n:Nat} {o:Dn} {os:List Dn}(a:bq (s.extract k s.size)=some (o,n)) (h1:jd s=(jd (s.extract k s.size)).map (os++·)) (h2:jm s=k+jm (s.extract k s.size)) :
  jd s=(jd (s.extract (k+n) s.size)).map ((os++[o])++·)/\jm s=k+n+jm (s.extract (k+n) s.size):=by
 rw[Cm a,Kv]at h1;rw[Xo a,Kv]at h2;refine⟨?_,by omega⟩;rw[h1]
 cases jd (s.extract (k+n) s.size) <;> simp
theorem Rn (s:ByteArray) (w:World) (hz:s.size<=1048576){ty:TypeId} {pv:Value}(F:at3 w ty pv) :
  Calls prog 46 #[.string s] w fun e w' =>
   (s.size<=6000/\∃ (os:List Dn) (v:Value),jd s=some os/\e=.returned (.tuple #[v,.nilIface])/\Dos w' w.heap.size v os/\os.length<=6000/\Below w.heap.size w w') \/
   (s.size<=6000/\jd s=none/\e=.returned (.tuple #[.slice none 0 0,.iface 98 (.agg #[.int .i64 (jm s:Int)])])/\Below w.heap.size w w') \/
   (¬ s.size<=6000/\e=.returned (.tuple #[.slice none 0 0,.iface ty pv])/\Below w.heap.size w w'):=by
 by_cases E:s.size<=6000
 .have V:¬ (6000:Int)<(s.size:Int):=by omega
  obtain⟨i0,hi,Z,a0,a1⟩:=info_parts an5;have L:Hid (∀ (k:Nat) (u:World),k<s.size->Calls prog 97 #[.string (s.extract k s.size)] u fun e w'=>e=.returned (af6 (bq (s.extract k s.size)))/\Below u.heap.size u w'):=fun k u hk=>ap8 _ u (by rw[li];omega) (by rw[li];omega)
  have B:s.extract 0 s.size=s:=by simp
  clear F;go_enter func46,ntmps46;go_wp2_with fail;go_loopw [4,5] (fun v i wr=>ay8 w s v i wr) (fun _ i _=>s.size-(intOf i).toNat)
  case atStart=>exact⟨0,[],Nat.zero_le _,rfl,World.ownsRow_nil _ _ _ _,bR,by rw[B];simp,by rw[B];omega,bX⟩
  case round =>
   clear B;obtain⟨k,os,hk,rfl,M,a6,N,O,P⟩:=hrel;have r:=hZ M;have d:=hZ N;have l:=hZ O;have a:=hZ P;clear M N O P;by_cases X:k<s.size
   .have a3:(k:Int)<(s.size:Int):=by omega
    have f:=L.out k wr X;have sl:∀ u:World,(Instr.slice 9 (.string s) (some (.int .i64 (k:Int))) none none).run prog u=.ok (.string (s.extract k s.size)) u:=fun u=>by
     rw[run_slice_string_l (ht:=underlying9) (h0:=by omega) (h1:=by omega),Int.toNat_natCast]
    cases hrn:bq (s.extract k s.size) with
    | none =>
     rw[hrn]at f;have h:jd s=none:=by rw[d.out,Ki (by rw[li];omega) hrn];rfl
     have K:jm s=k:=by rw[l.out,Xp hrn];omega
     have y:=hZ h;have U:=hZ K;have g:Calls prog 97 #[.string (s.extract k s.size)] wr fun e w'=>e=.returned (.tuple #[.agg #[.int .i64 0,.string ⟨#[]⟩,.string ⟨#[]⟩],.int .i64 0])/\Below wr.heap.size wr w':=f
     clear f h K hrn d l r;generalize s.extract k s.size=rs at *;go_wp2_with fail;refine g.mono ?_;rintro e c ⟨rfl,b⟩;have R:Hid (∀ o,Below w.heap.size w (c.alloc o)):=fun o=>(a.out.trans (b.mono a.out.size)).alloc (a.out.trans (b.mono a.out.size)).size o
     clear g b a;go_wp2;go_ret2;exact .inr (.inl ⟨E,y.out,by (rw[U.out];try rfl),R.out _⟩)
    | some p =>
     obtain⟨o,n⟩:=p;rw[hrn]at f;have W:=wm hrn;rw[li]at W;have a4:¬ (n:Int)=0:=by omega
     have a5:((n:Int) == 0)=false:=by simp;omega
     have A:=ao2 hrn d.out l.out;obtain⟨q,hq⟩:∃ q,q=k+n:=⟨_,rfl⟩
     rw[<- hq]at A;have H:=hZ A;have a8:IntKind.i64.wrap ((k:Int)+(n:Int))=(q:Int):=by rw[IntKind.wrap_i64];omega
     have g:Calls prog 97 #[.string (s.extract k s.size)] wr fun e w'=>e=.returned (.tuple #[.agg #[.int .i64 (kn7 o),.string o.text,.string o.val],.int .i64 (n:Int)])/\Below wr.heap.size wr w':=f
     clear f hrn d l A;generalize s.extract k s.size=rs at *;generalize hkn7:kn7 o=kd at *;go_wp2_with fail;refine g.mono ?_;rintro e c ⟨rfl,b⟩;have C:Below c.heap.size c (c.alloc (.cells #[.int .i64 kd,.string o.text,.string o.val] 27)):=bY _;have D:=C.alloc C.size (.cells #[.int .i64 kd,.string o.text,.string o.val] 27);have m:=((r.out.below b).below D);have G:=hZ m;have z:Below w.heap.size w ((c.alloc (.cells #[.int .i64 kd,.string o.text,.string o.val] 27)).alloc (.cells #[.int .i64 kd,.string o.text,.string o.val] 27)):=(a.out.trans (b.mono a.out.size)).trans (D.mono (a.out.trans (b.mono a.out.size)).size)
     have t:=hZ z;have a7:=z.size;have Y:(c.alloc (.cells #[.int .i64 kd,.string o.text,.string o.val] 27)).heap.size=c.heap.size+1:=by simp
     unfold Dos at m;clear g b C D a r z;go_wp2_with (at_builtin;refine wpList_append_own _ rfl _ _ 94 rfl w.heap.size 27 i0 (.agg #[.int .i64 0,.string ⟨#[]⟩,.string ⟨#[]⟩]) 3 40 underlying94 hi Z a0 a1 rfl (by decide) _ _ _ rfl m ⟨_,0,none⟩ 1 1 [.int .i64 kd,.string o.text,.string o.val] rfl rfl (C6 _ _ _ _ _ _ Y.symm) (fun x hx=>by simp at hx;rcases hx with rfl|rfl|rfl <;> rfl) (by unfold maxLen;omega) (by omega) (by omega) ?_;intro v5 Q J I _)
     have T:Hid (Dos Q w.heap.size v5 (os++[o])):=am4 (by unfold dnC;rw[hkn7];exact J);have S:Hid (Below w.heap.size w Q):=Below.grown t.out I t.out.size (fun j hj=>(World.ownsRow.lt G.out j hj).1);clear J I G t m;go_wp2;exact⟨⟨q,os++[o],by omega,by (first|rfl|go_num),T.out,by simp;omega,H.out.1,H.out.2,S.out⟩,by simp[intOf];omega⟩
   .obtain rfl:k=s.size:=by omega
    have h:jd s=some os:=by rw[d.out,O0 (by rw[li];omega)];simp
    have y:=hZ h;clear h d l L;go_wp2;go_ret2;exact .inl ⟨E,os,_,y.out,rfl,r.out,by omega,a.out⟩
 .have V:(6000:Int)<(s.size:Int):=by omega
  have a2:=ag F;unfold at3 at F;go_enter func46,ntmps46;go_wp2;go_quiet (fail)
  go_wp2;go_ret2;exact .inr (.inr ⟨E,rfl,ch bX _⟩)
end Go.Proofs.YtjbmgghehdemdaaGreatDoor
