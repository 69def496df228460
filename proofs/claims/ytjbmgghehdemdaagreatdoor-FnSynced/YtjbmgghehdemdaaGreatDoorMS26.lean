/- PIdx7 -/
import Derived.Test.YtjbmgghehdemdaaGreatDoorMS13
import Derived.Test.YtjbmgghehdemdaaGreatDoorMS25
import Derived.Test.YtjbmgghehdemdaaGreatDoorMS24
import Derived.Test.YtjbmgghehdemdaaGreatDoorMS18
import Derived.Test.YtjbmgghehdemdaaGreatDoorMS20
namespace Go.Proofs.YtjbmgghehdemdaaGreatDoor
set_option maxRecDepth 100000
set_option maxHeartbeats 16000000
open _root_.Go.Proofs.Tryz
structure Dn where
 put:Bool
 text:ByteArray
 val:ByteArray
def dx (R:RA) (x:ByteArray):ByteArray:=Cs R.es R.sh R.lv x
def iz (R:RA) (x:ByteArray):Bool:=decide (x.size<=60) && decide ((dx R x).size<=200)
def Ev (R:RA) (o:Dn):Rw:=⟨dx R o.text,o.text,o.val⟩
def apC (R:RA) (l:List Rw) (o:Dn):Int :=
 if (iz R o.text && decide (o.val.size<=60))=false then 2
 else if o.put=true then (if (jc l (Ev R o)).length<=60 then 0 else 3)
 else if di l (dx R o.text)=true then 0 else 4
def apR (R:RA) (l:List Rw) (o:Dn):List Rw:=if o.put=true then jc l (Ev R o) else sq l (dx R o.text)
def pr (R:RA):List Rw->List Dn->Option (List Rw)
 | l,[]=>some l
 | l,o::os=>if apC R l o=0 then pr R (apR R l o) os else none
def bm (s:ByteArray):Option (Dn × Nat) :=
 if s.size=0 then none
 else if hd s 0=112 then
  (if s.size<3 then none
   else if s.size<=3+hd s 1+hd s 2 then none
   else if hd s (3+hd s 1+hd s 2)=46 then some (⟨true,s.extract 3 (3+hd s 1),s.extract (3+hd s 1) (3+hd s 1+hd s 2)⟩,3+hd s 1+hd s 2+1) else none)
 else if hd s 0=100 then
  (if s.size<2 then none
   else if s.size<=2+hd s 1 then none
   else if hd s (2+hd s 1)=46 then some (⟨false,s.extract 2 (2+hd s 1),⟨#[]⟩⟩,2+hd s 1+1) else none)
 else none
theorem n7 {s:ByteArray} {o:Dn} {n:Nat}(h:bm s=some (o,n)):1<=n/\n<=s.size:=by
 unfold bm at h;split at h
 .cases h
 split at h
 .split at h
  .cases h
  split at h
  .cases h
  split at h
  .injection h with h
   injection h with _ h;omega
  .cases h
 split at h
 .split at h
  .cases h
  split at h
  .cases h
  split at h
  .injection h with h
   injection h with _ h;omega
  .cases h
 .cases h
theorem Up {s:ByteArray} {o:Dn} {n:Nat}(h:bm s=some (o,n)):o.text.size<=255/\o.val.size<=255/\(o.put=false->o.val=⟨#[]⟩):=by
 have d:=jy s 1;have f:=jy s 2;have c:∀ a b:Nat,(s.extract a (a+b)).size<=b:=fun a b=>by rw[ByteArray.size_extract];omega
 unfold bm at h;split at h
 .cases h
 split at h
 .split at h
  .cases h
  split at h
  .cases h
  split at h
  .injection h with h
   injection h with h _;subst h;have q1:=c 3 (hd s 1);have q2:=c (3+hd s 1) (hd s 2);exact⟨by show (s.extract 3 (3+hd s 1)).size<=255;omega,by show (s.extract (3+hd s 1) (3+hd s 1+hd s 2)).size<=255;omega,fun e=>by cases e⟩
  .cases h
 split at h
 .split at h
  .cases h
  split at h
  .cases h
  split at h
  .injection h with h
   injection h with h _;subst h;have q1:=c 2 (hd s 1);exact⟨by show (s.extract 2 (2+hd s 1)).size<=255;omega,by show 0<=255;omega,fun _=>rfl⟩
  .cases h
 .cases h
def oc:Nat->ByteArray->Option (List Dn)
 | 0,s=>if s.size=0 then some [] else none
 | f+1,s=>if s.size=0 then some [] else match bm s with
  | none=>none
  | some (o,n)=>(oc f (s.extract n s.size)).map (o::·)
def im (s:ByteArray):Option (List Dn):=oc s.size s
theorem gg (s:ByteArray) (n:Nat):(s.extract n s.size).size=s.size-n:=by rw[ByteArray.size_extract];omega
theorem M8:∀ (f g:Nat) (s:ByteArray),s.size<=f->s.size<=g->oc f s=oc g s
 | 0,0,_,_,_=>rfl
 | 0,g+1,s,h1,_=>by unfold oc;rw[if_pos (by omega),if_pos (by omega)]
 | f+1,0,s,_,h2=>by unfold oc;rw[if_pos (by omega),if_pos (by omega)]
 | f+1,g+1,s,h1,h2=>by
  unfold oc;by_cases h0:s.size=0
  .rw[if_pos h0,if_pos h0]
  .rw[if_neg h0,if_neg h0]
   cases hr:bm s with
   | none=>rfl
   | some p =>
    obtain⟨o,n⟩:=p;have a:=n7 hr;have b:=gg s n;show (oc f (s.extract n s.size)).map _=(oc g (s.extract n s.size)).map _
    rw[M8 f g (s.extract n s.size) (by omega) (by omega)]
theorem Pu {s:ByteArray}(h:s.size=0):im s=some []:=by unfold im;rw[h];unfold oc;rw[if_pos h]
theorem Ei {s:ByteArray}(h0:s.size≠0) (h:bm s=none):im s=none:=by
 unfold im;obtain⟨m,a⟩:∃ m,s.size=m+1:=⟨s.size-1,by omega⟩
 rw[a];unfold oc;rw[if_neg h0,h]
theorem zz {s:ByteArray} {o:Dn} {n:Nat}(h:bm s=some (o,n)):im s=(im (s.extract n s.size)).map (o::·):=by
 have b:=n7 h;have c:=gg s n;unfold im;obtain⟨m,a⟩:∃ m,s.size=m+1:=⟨s.size-1,by omega⟩
 rw[show oc s.size s=oc (m+1) s by rw[a]];show (if s.size=0 then some [] else match bm s with|none=>none|some (o,n)=>(oc m (s.extract n s.size)).map (o::·))=_
 rw[if_neg (by omega),h];show (oc m (s.extract n s.size)).map _=_
 rw[M8 m _ (s.extract n s.size) (by omega) bR]
def jd (R:RA) (l:List Rw) (s:ByteArray):Option (List Rw):=(im s).bind (pr R l)
theorem Ie {R:RA} {l:List Rw} {s:ByteArray}(h:s.size=0):jd R l s=some l:=by unfold jd;rw[Pu h];rfl
theorem ab2 {R:RA} {l:List Rw} {s:ByteArray}(h0:s.size≠0) (h:bm s=none):jd R l s=none:=by unfold jd;rw[Ei h0 h];rfl
theorem Id {R:RA} {l:List Rw} {s:ByteArray} {o:Dn} {n:Nat}(h:bm s=some (o,n)) (a:apC R l o≠0):jd R l s=none:=by
 unfold jd;rw[zz h]
 cases im (s.extract n s.size) with
 | none=>rfl
 | some os=>show pr R l (o::os)=none;unfold pr;rw[if_neg a]
theorem Ew {R:RA} {l:List Rw} {s:ByteArray} {o:Dn} {n:Nat}(h:bm s=some (o,n)) (a:apC R l o=0):jd R l s=jd R (apR R l o) (s.extract n s.size):=by
 unfold jd;rw[zz h]
 cases im (s.extract n s.size) with
 | none=>rfl
 | some os=>show pr R l (o::os)=pr R (apR R l o) os;rw[pr,if_pos a]
def ig (R:RA) (l:List Rw):Bool:=l.all fun x=>decide (dx R x.text=x.key)
def eb (R:RA) (pages:List ByteArray) (log:ByteArray):Option (List Rw) :=
 match bu pages with
 | none=>none
 | some gs=>if R.code=0/\ig R gs.flatten=true/\log.size<=6000 then jd R gs.flatten log else none
structure jv (R:RA) (l:List Rw):Prop where
 rise:m6 l
 len:l.length<=60
 sz:∀ x ∈ l,x.text.size<=60/\x.val.size<=60/\x.key.size<=200
 key:∀ x ∈ l,dx R x.text=x.key
theorem Hi {R:RA} {l:List Rw} {o:Dn}(h:apC R l o=0):iz R o.text=true/\o.val.size<=60/\(o.put=true->(jc l (Ev R o)).length<=60)/\(o.put=false->di l (dx R o.text)=true):=by
 unfold apC at h;split at h
 .cases h
 rename_i hf
 have a:(iz R o.text && decide (o.val.size<=60))=true:=by simpa using hf
 rw[Bool.and_eq_true,decide_eq_true_eq]at a;split at h
 .rename_i hp
  split at h
  .rename_i hl
   exact⟨a.1,a.2,fun _=>hl,fun e=>by rw[hp]at e;cases e⟩
  .cases h
 .rename_i hp
  split at h
  .rename_i ht
   exact⟨a.1,a.2,fun e=>absurd e hp,fun _=>ht⟩
  .cases h
theorem qe {R:RA} {x:ByteArray}(h:iz R x=true):x.size<=60/\(dx R x).size<=200:=by
 unfold iz at h;rw[Bool.and_eq_true,decide_eq_true_eq,decide_eq_true_eq]at h;exact h
theorem jv.step {R:RA} {l:List Rw} {o:Dn}(h:jv R l) (i:apC R l o=0):jv R (apR R l o):=by
 obtain⟨d,e,f,g⟩:=Hi i;unfold apR
 cases hp:o.put
 .rw[if_neg (by simp)]
  have j:=g hp;have b:=a17 l (dx R o.text);exact⟨yh ((yi h.rise).sublist b),Nat.le_trans b.length_le h.len,fun x a=>h.sz x (b.subset a),fun x a=>h.key x (b.subset a)⟩
 .rw[if_pos rfl]
  have c:=qe d;refine⟨yh (ay5 (yi h.rise)),f hp,fun x a=>?_,fun x a=>?_⟩
  .rcases Pi a with rfl|a
   .exact⟨c.1,e,c.2⟩
   .exact h.sz x a
  .rcases Pi a with rfl|a
   .rfl
   .exact h.key x a
theorem jv.run {R:RA}:∀ (os:List Dn){l l':List Rw},jv R l->pr R l os=some l'->jv R l'
 | [],l,l',h,hr=>by cases hr;exact h
 | o::os,l,l',h,hr=>by
  unfold pr at hr;split at hr
  .rename_i hc
   exact jv.run os (h.step hc) hr
  .cases hr
def qw (pages:List ByteArray):Prop:=∀ gs,bu pages=some gs->gs.flatten.length<=60/\∀ x ∈ gs.flatten,x.text.size<=60/\x.val.size<=60
theorem Xu {R:RA} {a:List ByteArray} {log:ByteArray} {l:List Rw}(b:qw a) (h:eb R a log=some l):jv R l:=by
 unfold eb at h
 cases hb:bu a with
 | none=>rw[hb]at h;cases h
 | some gs =>
  rw[hb]at h;simp only at h;split at h
  .rename_i hc
   have d:=(xk hb).1;have f:jv R gs.flatten:=by
    refine⟨yh d.pw,(b gs hb).1,fun x hx=>?_,fun x hx=>?_⟩
    .obtain⟨g,i,e⟩:=List.mem_flatten.1 hx
     have c:=(pi.1 (d.good g i).1).2.1 x e;unfold sz1 at c;rw[Bool.and_eq_true,Bool.and_eq_true,decide_eq_true_eq]at c;exact⟨((b gs hb).2 x hx).1,((b gs hb).2 x hx).2,c.1.1⟩
    .have:=List.all_eq_true.1 hc.2.1 x hx
     simpa using this
   unfold jd at h
   cases hl:im log with
   | none=>rw[hl]at h;cases h
   | some os=>rw[hl]at h;exact f.run os h
  .cases h
open Go.RowKit
structure Ev7 (w:World) (pb pl pf pn:Addr):Prop where
 bad:w.cell? ⟨0,0,none⟩=some (.iface 298 (.pointer (some pb)))
 long:w.cell? ⟨1,0,none⟩=some (.iface 298 (.pointer (some pl)))
 full:w.cell? ⟨2,0,none⟩=some (.iface 298 (.pointer (some pf)))
 none_:w.cell? ⟨3,0,none⟩=some (.iface 298 (.pointer (some pn)))
theorem Ev7.below {w w':World} {pb pl pf pn:Addr}(h:Ev7 w pb pl pf pn) (a:Below w.heap.size w w'):Ev7 w' pb pl pf pn :=
 ⟨(a.cell (p:=⟨0,0,none⟩) (ag h.bad)).trans h.bad,(a.cell (p:=⟨1,0,none⟩) (ag h.long)).trans h.long,(a.cell (p:=⟨2,0,none⟩) (ag h.full)).trans h.full,(a.cell (p:=⟨3,0,none⟩) (ag h.none_)).trans h.none_⟩
theorem qq {B:Nat} {w u:World}(h:Below B w u) (n:Nat):Below B w (u.drewN n):=⟨h.os,h.tape,h.output,h.size,h.block⟩
structure Ru7 (w:World) (B:Nat) (ve:Value) (R:RA):Prop where
 ents:ac w B ve R.es
 ok:bd R.es R.lv=true
 tabs:fh w
theorem Ru7.below {w w':World} {B:Nat} {b:Value} {R:RA}(h:Ru7 w B b R) (a:Below w.heap.size w w'):Ru7 w' B b R:=⟨h.ents.below a,h.ok,h.tabs.below a⟩
theorem Ic {R:RA}(h:bd R.es R.lv=true):∀ e ∈ R.es,e.runes.length<=1048576:=fun e he=>by
 have:=ez ((ck h).2.2 e he).1;omega
theorem Ru7.form {w:World} {B:Nat} {b:Value} {R:RA}(h:Ru7 w B b R):∃ a c,b=.slice a R.es.length c:=by
 rcases h.ents.form with ⟨rfl,d⟩|⟨_,_,rfl,_,_,_,_⟩
 .rw[d];exact⟨_,_,rfl⟩
 .exact⟨_,_,rfl⟩
theorem Ep {R:RA}(h:bd R.es R.lv=true){x:ByteArray}(a:x.size<=200):okE R.es R.lv x=true:=by unfold okE;rw[Mb a,h];rfl
def lr (u:World) (p:Nat) (v:Value) (sh:Bool) (lv:Int):Prop:=u.heap[p]? = some (.cells #[v,.bool sh,.int .i64 lv] 56)
theorem lr.below {u u':World} {p:Nat} {v:Value} {sh:Bool} {lv:Int}(h:lr u p v sh lv) (a:Below u.heap.size u u'):lr u' p v sh lv:=(a.block p (Array.getElem?_eq_some_iff.1 h).1).trans h
theorem lr.facts {u:World} {p:Nat} {v:Value} {sh:Bool} {lv:Int}(h:lr u p v sh lv):p<u.heap.size/\u.cell? ⟨p,0,none⟩=some v/\u.cell? ⟨p,1,none⟩=some (.bool sh)/\u.cell? ⟨p,2,none⟩=some (.int .i64 lv) :=
 ⟨(Array.getElem?_eq_some_iff.1 h).1,cell_of_row _ _ 0 _ _ _ h,cell_of_row _ _ 1 _ _ _ h,cell_of_row _ _ 2 _ _ _ h⟩
theorem Tv {w:World} {B:Nat} {h:Value} {R:RA} {pb pl pf pn:Addr}(x:ByteArray) (m:x.size<=1048576) (b:Ru7 w B h R) (d:Ev7 w pb pl pf pn) :
  Calls prog 49 #[.agg #[h,.bool R.sh,.int .i64 R.lv],.string x] w fun e w' =>
   e=.returned (if x.size<=60 then .tuple #[.string (dx R x),.nilIface] else .tuple #[.string ⟨#[]⟩,.iface 298 (.pointer (some pl))])/\Below w.heap.size w w':=by
 obtain⟨n,o,rfl⟩:=b.form;have a:=(Below.refl w.heap.size w).alloc bR (.cells #[.slice n R.es.length o,.bool R.sh,.int .i64 R.lv] 56);by_cases f:x.size<=60
 .rw[if_pos f]
  have j:¬ (60:Int)<(x.size:Int):=by omega
  have K:=Gr (sh:=R.sh) (lv:=R.lv) x m (b.ents.below a) (Ic b.ok) (b.tabs.below a);rw[Ep b.ok (by omega)]at K;have k:Hid (Cs R.es R.sh R.lv x=dx R x):=rfl;rw[k.out]at K;have c:Hid (Below w.heap.size w _):=a;generalize dx R x=key at *;clear b d a;go_enter func49,ntmps49;go_wp2_with fail;refine K.mono ?_;rintro e q ⟨rfl,g⟩;have i:=hZ (c.out.trans (g.mono c.out.size));clear K g;go_wp2;go_ret2;exact⟨rfl,i.out⟩
 .rw[if_neg f]
  have j:(60:Int)<(x.size:Int):=by omega
  have l:=(d.below a).long;have p:=ag l;have c:Hid (Below w.heap.size w _):=a;clear b d a;go_enter func49,ntmps49;go_wp2;go_quiet (fail)
  go_wp2;go_ret2;exact⟨rfl,qq c.out _⟩
theorem Yo {w:World} {B:Nat} {k:Value} {R:RA} {pb pl pf pn:Addr}(x:ByteArray) (p:x.size<=1048576) (g:Ru7 w B k R) (h:Ev7 w pb pl pf pn) :
  Calls prog 94 #[.agg #[k,.bool R.sh,.int .i64 R.lv],.string x] w fun e w' =>
   e=.returned (if iz R x=true then .tuple #[.string (dx R x),.nilIface] else .tuple #[.string ⟨#[]⟩,.iface 298 (.pointer (some pl))])/\Below w.heap.size w w':=by
 obtain⟨q,r,rfl⟩:=g.form;have c:=(Below.refl w.heap.size w).alloc bR (.cells #[.slice q R.es.length r,.bool R.sh,.int .i64 R.lv] 56);have T:=Tv x p (g.below c) (h.below c);have d:Hid (Below w.heap.size w _):=c;have n:Hid (Ev7 _ pb pl pf pn):=h.below c;by_cases i:x.size<=60
 .rw[if_pos i]at T
  by_cases j:(dx R x).size<=200
  .have b:iz R x=true:=by unfold iz;rw[decide_eq_true i,decide_eq_true j];rfl
   rw[if_pos b];have m:¬ (200:Int)<((dx R x).size:Int):=by omega
   clear g h c b;generalize dx R x=key at *;go_enter func94,ntmps94;go_wp2_with fail;refine T.mono ?_;rintro e l ⟨rfl,a⟩;have f:=hZ (d.out.trans (a.mono d.out.size));clear T a;go_wp2;go_ret2;exact⟨rfl,f.out⟩
  .have b:¬ iz R x=true:=by unfold iz;rw[decide_eq_false j,Bool.and_false];simp
   rw[if_neg b];have m:(200:Int)<((dx R x).size:Int):=by omega
   clear g h c b;generalize dx R x=key at *;go_enter func94,ntmps94;go_wp2_with fail;refine T.mono ?_;rintro e l ⟨rfl,a⟩;have f:=hZ (d.out.trans (a.mono d.out.size));have o:=(n.out.below a).long;have s:=ag o;clear T a;go_wp2;go_quiet (fail)
   go_wp2;go_ret2;exact⟨rfl,qq f.out _⟩
 .rw[if_neg i]at T
  have b:¬ iz R x=true:=by unfold iz;rw[decide_eq_false i,Bool.false_and];simp
  rw[if_neg b];clear g h c b;go_enter func94,ntmps94;go_wp2_with fail;refine T.mono ?_;rintro e l ⟨rfl,a⟩;have f:=hZ (d.out.trans (a.mono d.out.size));clear T a;go_wp2;go_ret2;exact⟨rfl,f.out⟩
theorem al1 {R:RA} {l:List Rw} {k:Nat} {x:Rw}(h:l[k]? = some x) (a:dx R x.text≠x.key):ig R l=false:=by
 unfold ig;rw[List.all_eq_false];exact⟨x,List.mem_of_getElem? h,by simpa using a⟩
theorem a71 {R:RA} {l:List Rw}(h:∀ (j:Nat) (x:Rw),j<l.length->l[j]? = some x->dx R x.text=x.key):ig R l=true:=by
 unfold ig;rw[List.all_eq_true];intro x b;obtain⟨j,a,rfl⟩:=List.getElem_of_mem b;exact decide_eq_true (h j _ a (List.getElem?_eq_getElem a))
theorem a68 {w:World} {B:Nat} {Z:Value} {R:RA} {a:Option Addr} {c:Nat} {l:List Rw}(hl:l.length<=1048576) (U:∀ x ∈ l,x.text.size<=200) (E:Ru7 w B Z R) (T:dc w a l) :
  Calls prog 87 #[.agg #[Z,.bool R.sh,.int .i64 R.lv],.slice a l.length c] w fun e w'=>e=.returned (.bool (ig R l))/\Below w.heap.size w w':=by
 obtain⟨F,G,rfl⟩:=E.form;have s:=(Below.refl w.heap.size w).alloc bR (.cells #[.slice F R.es.length G,.bool R.sh,.int .i64 R.lv] 56);obtain⟨W,A⟩:∃ W,W=w.alloc (.cells #[.slice F R.es.length G,.bool R.sh,.int .i64 R.lv] 56):=⟨_,rfl⟩
 have I:lr W w.heap.size (.slice F R.es.length G) R.sh R.lv:=by rw[A];exact heap_alloc_new w _
 rw[<- A]at s;have a0:=hZ I;have v:=hZ (E.below s);have HS:Hid (∀ u,Below W.heap.size W u->dc u a l):=fun u hu=>(T.below s bR).below hu bR
 have HZ:=hZ U;have t:=hZ s;have N:=hZ A;clear E T U s I A;go_enter func87,ntmps87;go_wp2_with fail;rw[<- N.out];clear N;go_loopw [11] (fun i wr=>∃ k:Nat,k<=l.length/\i=.int .i64 (k:Int)/\Hid (∀ (j:Nat) (x:Rw),j<k->l[j]? = some x->dx R x.text=x.key)/\Below W.heap.size W wr) (fun i _=>l.length-(intOf i).toNat)
 case atStart=>exact⟨0,Nat.zero_le _,rfl,fun j x hj=>by omega,bX⟩
 case round =>
  obtain⟨k,hk,rfl,r,n⟩:=hrel;by_cases a7:k<l.length
  .obtain⟨y,p⟩:∃ y,l[k]? = some y:=by exact⟨_,List.getElem?_eq_getElem a7⟩
   have z:=hZ p;have a4:=HS.out wr n;rcases a4 with h|⟨b,o,rfl,S⟩
   .rw[h]at p;simp at p
   obtain⟨D,P,Q⟩:=S k y p;have a8:=ag D;have a9:(k:Int)<(l.length:Int):=by omega
   have O:Below wr.heap.size wr (wr.alloc (.cells #[.string y.key,.string y.text,.string y.val] 37)):=bY _;have q:=n.trans (O.mono n.size);have M:=HZ.out y (List.mem_of_getElem? p);have K:=Gr (sh:=R.sh) (lv:=R.lv) y.text (by omega) (v.out.below q).ents (Ic v.out.ok) (v.out.below q).tabs;rw[Ep v.out.ok M]at K;obtain⟨L,V,X,Y⟩:=(a0.out.below q).facts;have g:Hid (f9 (wr.alloc (.cells #[.string y.key,.string y.text,.string y.val] 37)) wr.heap.size y):=o7 wr y;have f:=hZ q;have H:Hid (Cs R.es R.sh R.lv y.text=dx R y.text):=rfl;rw[H.out]at K;clear S p n O q H M;by_cases m:dx R y.text=y.key
   .have a2:Hid (∀ (j:Nat) (x:Rw),j<k+1->l[j]? = some x->dx R x.text=x.key):=fun j x hj hx=>by
     by_cases a6:j<k
     .exact r.out j x a6 hx
     .obtain rfl:j=k:=by omega
      rw[z.out]at hx;obtain rfl:=Option.some.inj hx;exact m
    rw[m]at K;clear m r;go_wp2_with fail;refine K.mono ?_;rintro e w2 ⟨rfl,d⟩;obtain⟨d0,d1,d2⟩:=(g.out.below d).cells;have a5:=(g.out.below d).lt;have C:=hZ (f.out.trans (d.mono f.out.size));clear K d D P Q V X Y L g f;go_wp2;exact⟨⟨k+1,by omega,by go_num,a2.out,C.out⟩,by simp[intOf];omega⟩
   .have J:=al1 z.out m
    have aa:=zc m;have a3:=hZ J;clear J m r;generalize dx R y.text=key at *;go_wp2_with fail;refine K.mono ?_;rintro e w2 ⟨rfl,d⟩;obtain⟨d0,d1,d2⟩:=(g.out.below d).cells;have a5:=(g.out.below d).lt;have C:=hZ (t.out.trans ((f.out.trans (d.mono f.out.size)).mono t.out.size));clear K d D P Q V X Y L g f;go_wp2;go_ret;exact⟨by (rw[a3.out];try rfl),C.out⟩
  .obtain rfl:k=l.length:=by omega
   have z:Hid (ig R l=true):=a71 r.out;have a1:=hZ (t.out.trans (n.mono t.out.size));clear n r;go_wp2;go_ret;exact⟨by (rw[z.out];try rfl),a1.out⟩
theorem ay9 {R:RA}(h:bd R.es R.lv=true){x:ByteArray}(a:x.size<=200):dx R x=jt (Pk R.es R.sh R.lv (rn4 x)):=by
 unfold dx Cs;rw[if_pos (Ep h a)]
theorem Eg {w:World} {B:Nat} {H:Value} {R:RA}(x:ByteArray) (X:x.size<=1048576) (k:ac w B H R.es) (a:bd R.es R.lv=true) :
  Calls prog 78 #[.agg #[H,.bool R.sh,.int .i64 R.lv],.string x] w fun e w'=>e=.returned (.tuple #[.string (if x.size<=60 then dx R x else ⟨#[]⟩),.bool (iz R x)])/\Below w.heap.size w w':=by
 obtain⟨d,f,rfl⟩:=ef k;have m:Below w.heap.size w (w.alloc (.cells #[.slice d R.es.length f,.bool R.sh,.int .i64 R.lv] 56)):=bY _;have j:=hZ m;have l:Hf (w.alloc (.cells #[.slice d R.es.length f,.bool R.sh,.int .i64 R.lv] 56)) w.heap.size (.slice d R.es.length f) R.sh R.lv:=heap_alloc_new w _;have A:w.heap.size<(w.alloc (.cells #[.slice d R.es.length f,.bool R.sh,.int .i64 R.lv] 56)).heap.size:=by simp
 by_cases h:x.size<=60
 .rw[if_pos h]
  have i:=Yt x (w.alloc (.cells #[.slice d R.es.length f,.bool R.sh,.int .i64 R.lv] 56)) (by omega);have q:=Mb (s:=x) (show x.size<=200 by omega);rw[q]at i;have M:¬ (60:Int)<(x.size:Int):=by omega
  have C:Hid (ac _ _ _ _):=k.below m;have r:=Uq x;have Q:R.es.length<=1048576:=by have:=(xe a).1;omega
  obtain⟨_,O,P⟩:=xe a;have z:=Jc a r;obtain⟨n,hn⟩:∃ n:Nat,R.lv=(n:Int):=⟨R.lv.toNat,by omega⟩
  have o:=ay9 a (x:=x) (by omega);have V:=(En q).2;have L:Hid (∀ e ∈ R.es,e.runes.length<=1048576):=Ic a;have g:Hid (iz R x=decide ((dx R x).size<=200)):=by show _=_;unfold iz;rw[decide_eq_true h,Bool.true_and]
  rw[hn]at l o O P;have J:=hZ o.symm;have K:Hid _:=r;have I:Hid _:=z;rw[hn]at i j A C ⊢;generalize dx R x=key at *;clear k a o q r z m hn;go_enter func78,ntmps78;go_wp2_with fail;refine i.mono ?_;rintro e Z ⟨Y,rfl,G,c⟩;have y:=l.below c A;obtain⟨S,T,U⟩:=y.cells;have W:=c.size;have D:=G (by omega);have t:=al0 (sh:=R.sh) (n:=n) (C.out.below c) Q L.out D (by omega) K.out (by omega) (by omega) I.out;rw[J.out]at t;have u:=hZ (j.out.trans (c.mono j.out.size));clear i G D l y c;go_wp2_with fail;refine t.mono ?_;rintro e w3 ⟨rfl,E⟩;have v:=hZ (u.out.trans (E.mono u.out.size));clear t S T U E;by_cases F:key.size<=200
  .have p:(key.size:Int)<=200:=by omega
   have b:Hid (iz R x=true):=by show _=_;rw[g.out,decide_eq_true F]
   clear g;go_wp2;go_ret2;exact⟨by (rw[b.out];try rfl),v.out⟩
  .have p:¬ (key.size:Int)<=200:=by omega
   have b:Hid (iz R x=false):=by show _=_;rw[g.out,decide_eq_false F]
   have N:decide ((key.size:Int)<=200)=false:=decide_eq_false p;clear g;go_wp2;go_ret2;exact⟨by (rw[b.out];first|rfl|(rw[<- N];rfl)|simp[Act.eval,p]),v.out⟩
 .rw[if_neg h]
  have M:(60:Int)<(x.size:Int):=by omega
  have b:Hid (iz R x=false):=by show _=_;unfold iz;rw[decide_eq_false h,Bool.false_and]
  clear k a;go_enter func78,ntmps78;go_wp2;go_ret2;exact⟨by (rw[b.out];try rfl),j.out⟩
theorem Aj {B:Nat} {w u:World}(h:Below B w u) (n:Nat):Below B w (u.drewN n):=⟨h.os,h.tape,h.output,h.size,h.block⟩
theorem Tw {l:List Rw} {key:ByteArray} {k:Nat}(a:ba l key=k):di l key=(decide (k<l.length) && decide ((dr l k).key=key)):=by
 unfold di;rw[a];congr 1
 exact decide_eq_decide.2 (zt _ _)
theorem Fg {w:World} {a:Option Addr} {c:Nat} {l:List Rw}(key:ByteArray) (x:dc w a l) (I:l.length<=1048576) (z:m6 l) :
  Calls prog 82 #[.slice a l.length c,.string key] w fun e w'=>e=.returned (.tuple #[.int .i64 (ba l key:Int),.bool (di l key)])/\Below w.heap.size w w':=by
 obtain⟨P,p⟩:∃ P,P=ba l key:=⟨_,rfl⟩
 obtain⟨q1,q2,q3⟩:=nz key z;rw[<- p]at q1 q2 q3;have t:=Tw p.symm;have v:Hid (∀ u,Below w.heap.size w u->dc u a l):=fun u hu=>x.below hu bR
 have A:Hid (∀ (k:Nat) (y:Rw),k<P->l[k]? = some y->ltK y.key key=true):=fun k y r b=>by have:=q2 k r;rw[nu b]at this;exact this
 have B:Hid (∀ y,l[P]? = some y->ltK y.key key=false):=fun y b=>by have:=q3 P bR (List.getElem?_eq_some_iff.1 b).1;rw[nu b]at this;exact this
 have m:=hZ t;rw[<- p];clear x z q2 q3 t p;go_enter func82,ntmps82;go_wp2_with fail;go_loopw [6] (fun i wr=>∃ k:Nat,k<=P/\i=.int .i64 (k:Int)/\wr=w) (fun i _=>l.length-(intOf i).toNat)
 case atStart=>exact⟨0,Nat.zero_le _,rfl,rfl⟩
 case round =>
  obtain⟨k,r,rfl,rfl⟩:=hrel;by_cases s:k<P
  .obtain⟨y,b⟩:∃ y,l[k]? = some y:=by exact⟨_,List.getElem?_eq_getElem (by omega)⟩
   rcases v.out wr bX with h|⟨E,F,rfl,g⟩
   .rw[h]at b;simp at b
   obtain⟨o,_,_⟩:=g k y b;have C:=ag o;have D:(k:Int)<(l.length:Int):=by omega
   have n:ltK y.key key=true:=A.out k y s b;unfold ltK at n;clear g b;go_wp2;exact⟨⟨k+1,by omega,by go_num,by (first|rfl|trivial)⟩,by simp[intOf];omega⟩
  .obtain rfl:k=P:=by omega
   clear s r;by_cases q:k<l.length
   .obtain⟨y,b⟩:∃ y,l[k]? = some y:=by exact⟨_,List.getElem?_eq_getElem q⟩
    rcases v.out wr bX with h|⟨E,F,rfl,g⟩
    .rw[h]at b;simp at b
    obtain⟨o,_,_⟩:=g k y b;have C:=ag o;have D:(k:Int)<(l.length:Int):=by omega
    have n:ltK y.key key=false:=B.out y b;unfold ltK at n;have d:=m.out;rw[nu b,decide_eq_true q,Bool.true_and]at d;by_cases f:y.key=key
    .rw[decide_eq_true f]at d
     have j:=hZ d;rw[f]at o n;clear g b f d m;go_wp2;go_quiet (fail)
     go_wp2;go_ret2;exact⟨by (rw[j.out];try rfl),Aj bX _⟩
    .rw[decide_eq_false f]at d
     have j:=hZ d;have G:=zc f;clear g b f d m;go_wp2;go_quiet (fail)
     go_wp2;go_ret2;exact⟨by (rw[j.out];try rfl),Aj bX _⟩
   .have d:=m.out
    rw[decide_eq_false q,Bool.false_and]at d;have j:=hZ d;clear d m;go_wp2;have H:decide ((k:Int)<(l.length:Int))=false:=decide_eq_false (by omega);go_quiet (fail)
    go_wp2;go_ret2;exact⟨by (rw[j.out];try rfl),Aj bX _⟩
def kn7 (o:Dn):Int:=if o.put=true then 1 else 2
def dnC (o:Dn):List Value:=[.int .i64 (kn7 o),.string o.text,.string o.val]
def so (l:List Dn):List Value:=l.flatMap dnC
theorem Oh (a b:List Dn):so (a++b)=so a++so b:=by simp[so]
theorem ah1 (es:List Dn) (k i:Nat) (e:Dn) (h:es[k]? = some e) (hi:i<3):(so es)[k*3+i]? = (dnC e)[i]?:=by
 induction es generalizing k with
 | nil=>simp at h
 | cons x es ih =>
  show (dnC x++so es)[k*3+i]? = _
  cases k with
  | zero =>
   simp at h;subst h;rw[Nat.zero_mul,Nat.zero_add,List.getElem?_append_left (by show i<3;exact hi)]
  | succ k =>
   have b:es[k]? = some e:=by simpa using h
   rw[List.getElem?_append_right (by show 3<=_;omega)];have a:(k+1)*3+i-(dnC x).length=k*3+i:=by show (k+1)*3+i-3=_;omega
   rw[a];exact ih k b
def Dos (w:World) (B:Nat) (v:Value) (l:List Dn):Prop:=w.ownsRow B 27 3 v l.length (so l)
theorem Dos.form {w:World} {B:Nat} {v:Value} {es:List Dn}(h:Dos w B v es):(v=.slice none 0 0/\es=[])\/∃ g cap,v=.slice (some ⟨g,0,none⟩) es.length cap/\es.length<=cap/\cap<=maxLen:=by
 rcases h.2 with ⟨a,b⟩|⟨g,cap,f,a,b,c,d,e,_⟩
 .exact .inl ⟨a,List.eq_nil_of_length_eq_zero b⟩
 .exact .inr ⟨g,cap,a,d,e⟩
theorem ah7 {w:World} {B:Nat} {v:Value} {l:List Dn}(h:Dos w B v l):∃ a c,v=.slice a l.length c:=by
 rcases h.form with ⟨rfl,rfl⟩|⟨g,c,rfl,_,_⟩
 .exact⟨_,_,rfl⟩
 .exact⟨_,_,rfl⟩
theorem Dos.cells {w:World} {B g cap:Nat} {es:List Dn}(h:Dos w B (.slice (some ⟨g,0,none⟩) es.length cap) es) (k:Nat) (e:Dn) (b:es[k]? = some e) :
  w.cell? ⟨g,k*3,none⟩=some (.int .i64 (kn7 e))/\w.cell? ⟨g,k*3+1,none⟩=some (.string e.text)/\w.cell? ⟨g,k*3+2,none⟩=some (.string e.val):=by
 have c:=(List.getElem?_eq_some_iff.1 b).1;have a:∀ i,i<3->w.cell? ⟨g,k*3+i,none⟩=(dnC e)[i]?:=fun i hi=>by
  rw[World.ownsRow.cellAt h (k*3+i) (by omega),ah1 es k i e b hi]
 exact⟨a 0 (by omega),a 1 (by omega),a 2 (by omega)⟩
theorem Dos.below {w w':World} {B:Nat} {v:Value} {es:List Dn}(h:Dos w B v es) (a:Below w.heap.size w w'):Dos w' B v es :=
 World.ownsRow.kept h (row:=none) ⟨a.os,a.tape,a.output,a.size,fun k hk _=>a.block k hk⟩ (by cases h:v.ownBlock <;> simp)
theorem aw8 {W:World} {B:Nat} {v:Value} {l:List Dn} {x:Dn}(h:W.ownsRow B 27 3 v (l.length+1) (so l++dnC x)):Dos W B v (l++[x]):=by
 unfold Dos;have a:(l++[x]).length=l.length+1:=by simp
 have b:so (l++[x])=so l++dnC x:=by rw[Oh];simp[so]
 rw[a,b];exact h
theorem ay4:(prog.info? 27).map (fun i=>(i.zero,i.size,i.bytes))=some (some (.agg #[.int .i64 0,.string ⟨#[]⟩,.string ⟨#[]⟩]),3,40):=by kernel_rfl
def fo (u:World) (p:Nat) (k:Int) (x y:ByteArray):Prop:=u.heap[p]? = some (.cells #[.int .i64 k,.string x,.string y] 27)
theorem fo.below {u u':World} {p:Nat} {k:Int} {x y:ByteArray}(h:fo u p k x y) (a:Below u.heap.size u u'):fo u' p k x y:=(a.block p (Array.getElem?_eq_some_iff.1 h).1).trans h
theorem fo.facts {u:World} {p:Nat} {k:Int} {x y:ByteArray}(h:fo u p k x y):p<u.heap.size/\u.cell? ⟨p,0,none⟩=some (.int .i64 k)/\u.cell? ⟨p,1,none⟩=some (.string x)/\u.cell? ⟨p,2,none⟩=some (.string y) :=
 ⟨(Array.getElem?_eq_some_iff.1 h).1,cell_of_row _ _ 0 _ _ _ h,cell_of_row _ _ 1 _ _ _ h,cell_of_row _ _ 2 _ _ _ h⟩
def jz (u:World) (b:Nat) (ve:Value) (sh:Bool) (lv:Int) (r:ByteArray) (vp:Value) (log:ByteArray) (syn:Int) (vr:Value):Prop :=
 u.heap[b]? = some (.cells #[ve,.bool sh,.int .i64 lv,.string r,vp,.string log,.int .i64 syn,vr] 71)
theorem jz.lt {u:World} {b:Nat} {a:Value} {sh:Bool} {lv:Int} {r:ByteArray} {c:Value} {log:ByteArray} {syn:Int} {vr:Value}(h:jz u b a sh lv r c log syn vr):b<u.heap.size:=(Array.getElem?_eq_some_iff.1 h).1
theorem jz.below {u u':World} {b:Nat} {a:Value} {sh:Bool} {lv:Int} {r:ByteArray} {c:Value} {log:ByteArray} {syn:Int} {vr:Value}(h:jz u b a sh lv r c log syn vr) (d:Below u.heap.size u u'):jz u' b a sh lv r c log syn vr:=(d.block b h.lt).trans h
theorem jz.facts {u:World} {b:Nat} {a:Value} {sh:Bool} {lv:Int} {r:ByteArray} {c:Value} {log:ByteArray} {syn:Int} {vr:Value}(h:jz u b a sh lv r c log syn vr) :
  b<u.heap.size/\u.cell? ⟨b,0,none⟩=some a/\u.cell? ⟨b,1,none⟩=some (.bool sh)/\u.cell? ⟨b,2,none⟩=some (.int .i64 lv)/\u.cell? ⟨b,3,none⟩=some (.string r)/\u.cell? ⟨b,4,none⟩=some c/\u.cell? ⟨b,5,none⟩=some (.string log)/\u.cell? ⟨b,6,none⟩=some (.int .i64 syn)/\u.cell? ⟨b,7,none⟩=some vr/\∀ j,u.frozen? ⟨b,j,none⟩=false :=
 ⟨h.lt,cell_of_row _ _ 0 _ _ _ h,cell_of_row _ _ 1 _ _ _ h,cell_of_row _ _ 2 _ _ _ h,cell_of_row _ _ 3 _ _ _ h,cell_of_row _ _ 4 _ _ _ h,cell_of_row _ _ 5 _ _ _ h,cell_of_row _ _ 6 _ _ _ h,cell_of_row _ _ 7 _ _ _ h,fun j=>frozen_of_row _ _ j _ _ h⟩
theorem Db:∀ w:World,(sizeOf 37).run prog w=.ok 3 w:=fun w=>by kernel_rfl
theorem ux {P:Program}(u:World) (t e:TypeId) (n:Nat) (ht:P.underlying t=some (.slice e)) (b:∀ w:World,(sizeOf e).run P w=.ok n w) (a:Option Addr) (len cap i:Nat) (hi:i<=len) :
  (Instr.slice t (.slice a len cap) (some (.int .i64 (i:Int))) none none).run P u=.ok (.slice (if cap=i then a else a.map (·.add (i*n))) (len-i) (cap-i)) u:=by
 simp[Instr.slice,Instr.sliceBounds,Instr.sliceBound,run_underlying ht,asIntOf,b,hi]
theorem ud {R:RA} {l:List Rw} {o:Dn}(h:(iz R o.text && decide (o.val.size<=60))=false):apC R l o=2:=by unfold apC;rw[if_pos h]
theorem Km {R:RA} {l:List Rw} {o:Dn}(h:(iz R o.text && decide (o.val.size<=60))=true) (a:o.put=true):apC R l o=if (jc l (Ev R o)).length<=60 then 0 else 3:=by unfold apC;rw[if_neg (by rw[h];simp),if_pos a]
theorem Hh {R:RA} {l:List Rw} {o:Dn}(h:(iz R o.text && decide (o.val.size<=60))=true) (a:o.put=false):apC R l o=if di l (dx R o.text)=true then 0 else 4:=by unfold apC;rw[if_neg (by rw[h];simp),if_neg (by rw[a];simp)]
def b29 (w:World) (R:RA) (l:List Rw) (o:Dn) (pl pf pn:Addr) (e:Ending) (w':World):Prop :=
 ((apC R l o=0/\∃ v,e=.returned (.tuple #[v,.nilIface])/\Rws w' w.heap.size v (apR R l o))\/(apC R l o=2/\e=.returned (.tuple #[.slice none 0 0,.iface 298 (.pointer (some pl))])) \/
  (apC R l o=3/\e=.returned (.tuple #[.slice none 0 0,.iface 298 (.pointer (some pf))]))\/(apC R l o=4/\e=.returned (.tuple #[.slice none 0 0,.iface 298 (.pointer (some pn))])))/\Below w.heap.size w w'
theorem Bp {w:World} {B Bl b:Nat} {ve:Value} {R:RA} {r:ByteArray} {vp:Value} {log:ByteArray} {syn:Int} {vr:Value} {l:List Rw} {pb pl pf pn:Addr}(o:Dn) (aT:o.text.size<=1048576) (b1:o.val.size<=1048576)
  (hI:jz w b ve R.sh R.lv r vp log syn vr) (hR:Ru7 w B ve R) (hV:Ev7 w pb pl pf pn) (hl:Rws w Bl vr l) (a3:m6 l) (aW:l.length<=60) :
  Calls prog 89 #[.pointer (some ⟨b,0,none⟩),.agg #[.int .i64 (kn7 o),.string o.text,.string o.val]] w fun e w'=>b29 w R l o pl pf pn e w':=by
 obtain⟨va,vc,rfl⟩:=hR.form;obtain⟨W,hW⟩:∃ W,W=w.alloc (.cells #[.int .i64 (kn7 o),.string o.text,.string o.val] 27):=⟨_,rfl⟩
 have bA:Below w.heap.size w W:=by rw[hW];exact bY _
 have K:Hid (fo W w.heap.size (kn7 o) o.text o.val):=by show _=_;rw[hW];exact heap_alloc_new w _
 have HI:=hZ (hI.below bA);have HR:=hZ (hR.below bA);have HV:=hZ (hV.below bA);have HL:=hZ (hl.below bA);have t:=hZ bA;have L:=hZ hW;obtain⟨ar,j,aV⟩:=db hl;subst aV;have b0:w.heap.size<W.heap.size:=by rw[hW];simp
 have f:=fun (u:World) (i:Below W.heap.size W u)=>Yo o.text aT (HR.out.below i) (HV.out.below i)
 obtain⟨I,M,N,O,Q,S,T,U,V,X⟩:=HI.out.facts;obtain⟨J,A,Y,Z⟩:=K.out.facts;have am:=hZ a3;clear hI hR hV hl bA hW a3;by_cases a1:iz R o.text=true
 .have ad:∀ u:World,Below W.heap.size W u->Calls prog 94 #[.agg #[.slice va R.es.length vc,.bool R.sh,.int .i64 R.lv],.string o.text] u fun e w'=>e=.returned (.tuple #[.string (dx R o.text),.nilIface])/\Below u.heap.size u w':=fun u i=>by
   have q:=f u i;rw[if_pos a1]at q;exact q
  clear f;have f:=ad;clear ad;obtain⟨key,a5⟩:∃ key,key=dx R o.text:=⟨_,rfl⟩
  rw[<- a5]at f;have a4:=hZ a5;clear a5;by_cases af:o.val.size<=60
  .have ae:(iz R o.text && decide (o.val.size<=60))=true:=by rw[a1,decide_eq_true af];rfl
   have aU:¬ (60:Int)<(o.val.size:Int):=by omega
   cases hput:o.put
   .have x:=Hh (l:=l) ae hput
    have aa:kn7 o=2:=by unfold kn7;rw[hput];rfl
    have a0:apR R l o=sq l key:=by unfold apR;rw[hput,a4.out];rfl
    rw[<- a4.out]at x;rw[aa]at A L K ⊢;have ab:=hZ a0;have E:=fun (u:World) (i:Below W.heap.size W u)=>Av (c:=j) key (ja (HL.out.below i)) (by omega)
    cases hth:di l key
    .have aF:apC R l o=4:=by rw[x,hth];rfl
     have aJ:=hZ aF;rw[hth]at E;generalize ba l key=p at E;clear x aF hth ae aa a0;go_enter func89,ntmps89;go_upto_region 1 with fail
     rw[<- L.out];go_cut [6,7] from 11 to 20 (fun v6 k wx=>v6=.string key/\k=.nilIface/\Below W.heap.size W wx)
     case first =>
      go_region_with (go_at_call 94;refine (f _ (by repeat (first|exact bX|refine Below.drew ?_))).mono ?_;rintro e w5 ⟨rfl,a⟩;have C:Below W.heap.size W w5:=⟨a.os,a.tape,a.output,a.size,a.block⟩;clear a)
      all_goals
       go_simp;go_wp2_with fail;go_meet
       case rel=>exact⟨rfl,rfl,C⟩
     case rest =>
      obtain⟨y,z,a⟩:=hcut;subst y;subst z;have ac:=E wc a;obtain⟨I,M,N,O,Q,S,T,U,V,X⟩:=(HI.out.below a).facts;obtain⟨J,A,Y,Z⟩:=(K.out.below a).facts;have m:=hZ a;clear E a f;go_wp2_with fail;refine ac.mono ?_;rintro e w6 ⟨rfl,b6⟩;have hn:=(HV.out.below (m.out.trans (b6.mono m.out.size))).none_;have aY:=ag hn;have ai:=hZ (t.out.trans ((m.out.trans (b6.mono m.out.size)).mono t.out.size));clear ac b6 M N O Q S T U V X I A Y Z J;go_wp2;go_quiet (fail)
      go_wp2;go_ret2;exact⟨.inr (.inr (.inr ⟨aJ.out,rfl⟩)),qq ai.out _⟩
    .have aE:apC R l o=0:=by rw[x,hth];rfl
     have ao:=hZ aE;rw[hth]at E;have aw:=(qt am.out hth).2;have az:Hid ((sq l key).length=l.length-1):=a16 am.out hth;have al:Hid (sq l key=l.take (ba l key)++l.drop (ba l key+1)):=rfl;obtain⟨D,HD⟩:∃ D,Hid (sq l key=D):=⟨_,rfl⟩
     rw[HD.out]at ab az al;generalize ba l key=p at E aw al;obtain⟨g,an,hv,aX,aN⟩:∃ g an,Value.slice ar l.length j=.slice (some ⟨g,0,none⟩) l.length an/\l.length<=an/\an<=maxLen:=by
      rcases HL.out.form with ⟨_,h0⟩|h
      .rw[h0]at aw;simp at aw
      .exact h
     injection hv with e1 _ e3;subst e1;subst e3;obtain⟨d,aH⟩:∃ d,d=p+1:=⟨_,rfl⟩
     rw[<- aH]at al;have aP:(p:Int)+1=(d:Int):=by omega
     have aQ:IntKind.i64.wrap (d:Int)=(d:Int):=by unfold maxLen at aN;rw[IntKind.wrap_i64];omega
     have aZ:(p:Int)<=(j:Int):=by omega
     have aR:(d:Int)<=(l.length:Int):=by omega
     have aS:(p:Int)<=(l.length:Int):=by omega
     clear x aE hth ae aa a0 aH;go_enter func89,ntmps89;go_upto_region 1 with fail
     rw[<- L.out];go_cut [6,7] from 11 to 20 (fun v6 k wx=>v6=.string key/\k=.nilIface/\Below W.heap.size W wx)
     case first =>
      go_region_with (go_at_call 94;refine (f _ (by repeat (first|exact bX|refine Below.drew ?_))).mono ?_;rintro e w5 ⟨rfl,a⟩;have C:Below W.heap.size W w5:=⟨a.os,a.tape,a.output,a.size,a.block⟩;clear a)
      all_goals
       go_simp;go_wp2_with fail;go_meet
       case rel=>exact⟨rfl,rfl,C⟩
     case rest =>
      obtain⟨y,z,a⟩:=hcut;subst y;subst z;have ac:=E wc a;obtain⟨I,M,N,O,Q,S,T,U,V,X⟩:=(HI.out.below a).facts;obtain⟨J,A,Y,Z⟩:=(K.out.below a).facts;have m:=hZ a;clear E a f;go_wp2_with fail;refine ac.mono ?_;rintro e w6 ⟨rfl,b6⟩;have a9:Below W.heap.size W w6:=m.out.trans (b6.mono m.out.size);have ai:=hZ a9;obtain⟨I,M,N,O,Q,S,T,U,V,X⟩:=(HI.out.below a9).facts;have aC:Hid ((l.take p).length=p):=by show _=_;rw[List.length_take];omega
      have aq:Hid ((l.drop d).length=l.length-d):=List.length_drop;have aA:Hid (SlV w6 (.slice (some ⟨g,0,none⟩) p j) (l.take p)):=⟨_,_,by rw[aC.out],(ja (HL.out.below a9)).take p⟩;obtain⟨F,H,G,aB,ax⟩:∃ (F:Option Addr) (H G:Nat),Hid (SlV w6 (.slice F H G) (l.drop d))/\∀ u:World,(Instr.slice 32 (.slice (some ⟨g,0,none⟩) l.length j) (some (.int .i64 (d:Int))) none none).run prog u=.ok (.slice F H G) u:=by
       by_cases aG:j=d
       .refine⟨some ⟨g,0,none⟩,0,0,⟨_,_,by rw[aq.out,show l.length-d=0 by omega],.inl (List.drop_eq_nil_of_le (by omega))⟩,fun u=>?_⟩
        have:=ux (P:=prog) u 32 37 3 underlying32 Db (some ⟨g,0,none⟩) l.length j d (by omega);rw[this,if_pos aG,show l.length-d=0 by omega,show j-d=0 by omega]
       .refine⟨some ⟨g,d*3,none⟩,l.length-d,j-d,⟨_,_,by rw[aq.out],by have h9:=(ja (HL.out.below a9)).drop d;rw[Nat.zero_add]at h9;exact h9⟩,fun u=>?_⟩
        have:=ux (P:=prog) u 32 37 3 underlying32 Db (some ⟨g,0,none⟩) l.length j d (by omega);rw[this,if_neg aG];simp[Addr.add]
        try omega
      have bT:Below w6.heap.size w6 (w6.alloc (.cells #[.slice (some ⟨g,0,none⟩) p j,.slice F H G] 32)):=bY _;have ak:=hZ bT;have ay:Hid (∀ u:World,u.heap=(w6.alloc (.cells #[.slice (some ⟨g,0,none⟩) p j,.slice F H G] 32)).heap->Calls prog 86 #[.slice (some ⟨w6.heap.size,0,none⟩) 2 2] u fun e w'=>∃ v,e=.returned v/\Rws w' u.heap.size v D/\Below u.heap.size u w'):=fun u i=>by
       have q:=Sb u w6.heap.size _ _ (l.take p) (l.drop d) (by rw[i];exact heap_alloc_new w6 _) (by rw[aC.out];omega) (by rw[aq.out];omega) (ip (aA.out.below ak.out bR) i) (ip (aB.out.below ak.out bR) i);rw[<- al.out]at q;exact q
      have aL:¬ (60:Int)<(D.length:Int):=by have:=az.out;omega
      have b3:=a9.size;clear ac b6 a9 A Y Z J bT;go_upto_region 12 with fail
      go_cut [8] from 55 to 69 (fun v8 wx=>Rws wx w.heap.size v8 D/\Below w6.heap.size w6 wx)
      case first =>
       go_region_law (go_simp;go_at_call 86;refine (ay.out _ (by rfl)).mono ?_;rintro e w7 ⟨k,rfl,r7,n⟩)
       all_goals
        have q8:Below (w6.alloc (.cells #[.slice (some ⟨g,0,none⟩) p j,.slice F H G] 32)).heap.size (w6.alloc (.cells #[.slice (some ⟨g,0,none⟩) p j,.slice F H G] 32)) w7:=⟨n.os,n.tape,n.output,n.size,n.block⟩;have s:Rws w7 (w6.heap.size+1) k D:=by have q:Rws w7 (w6.alloc (.cells #[.slice (some ⟨g,0,none⟩) p j,.slice F H G] 32)).heap.size k D:=r7;rw[World.size_alloc]at q;exact q
        have hK:Rws w7 w.heap.size k D/\Below w6.heap.size w6 w7:=⟨ff s (by omega),ak.out.trans (q8.mono ak.out.size)⟩;clear r7 n q8 s;go_simp;go_wp2_with fail;go_meet
        case rel=>exact hK
      case rest =>
       obtain⟨s,b8⟩:=hcut;obtain⟨a8,c8,a7⟩:=db s;subst a7;have au:=hZ s;have aj:=hZ (t.out.trans ((ai.out.trans (b8.mono ai.out.size)).mono t.out.size));clear s b8 M N O Q S T U V X I ay aA aB ax;go_wp2;go_ret2;exact⟨.inl ⟨ao.out,_,rfl,by rw[ab.out];exact au.out⟩,aj.out⟩
   .have x:=Km (l:=l) ae hput
    have aa:kn7 o=1:=by unfold kn7;rw[hput];rfl
    have a6:Ev R o=⟨key,o.text,o.val⟩:=by unfold Ev;rw[a4.out]
    have a0:apR R l o=jc l ⟨key,o.text,o.val⟩:=by unfold apR;rw[hput,a6];rfl
    rw[a6]at x;rw[aa]at A L K ⊢;have ab:=hZ a0;have WR:=fun (u:World) (i:Below W.heap.size W u)=>Rl ⟨key,o.text,o.val⟩ (HL.out.below i) (by omega) am.out
    have aK:Hid ((jc l ⟨key,o.text,o.val⟩).length<=l.length+1):=Ph am.out;obtain⟨D,HD⟩:∃ D,Hid (jc l ⟨key,o.text,o.val⟩=D):=⟨_,rfl⟩
    rw[HD.out]at ab WR x aK;have HC:=hZ x;clear x ae aa a0 a6;go_enter func89,ntmps89;go_upto_region 1 with fail
    rw[<- L.out];go_cut [6,7] from 11 to 20 (fun v6 k wx=>v6=.string key/\k=.nilIface/\Below W.heap.size W wx)
    case first =>
     go_region_with (go_at_call 94;refine (f _ (by repeat (first|exact bX|refine Below.drew ?_))).mono ?_;rintro e w5 ⟨rfl,a⟩;have C:Below W.heap.size W w5:=⟨a.os,a.tape,a.output,a.size,a.block⟩;clear a)
     all_goals
      go_simp;go_wp2_with fail;go_meet
      case rel=>exact⟨rfl,rfl,C⟩
    case rest =>
     obtain⟨y,z,a⟩:=hcut;subst y;subst z;have aD:=fun (u:World) (i:Below wc.heap.size wc u)=>WR u (a.trans (i.mono a.size))
     obtain⟨I,M,N,O,Q,S,T,U,V,X⟩:=(HI.out.below a).facts;obtain⟨J,A,Y,Z⟩:=(K.out.below a).facts;have m:=hZ a;have b2:=a.size;obtain⟨w5,ah⟩:∃ w5,w5=wc:=⟨_,rfl⟩
     clear WR a f;go_upto_region 8 with fail
     go_cut [8] from 32 to 42 (fun v8 wx=>Rws wx w.heap.size v8 D/\Below w5.heap.size w5 wx)
     case first =>
      go_region_with (go_at_call 124;refine (aD _ (by repeat (first|exact bX|refine Below.drew ?_))).mono ?_;rintro e w7 ⟨k,rfl,r7,n⟩;have q8:Below w5.heap.size w5 w7:=(by rw[ah];exact⟨n.os,n.tape,n.output,n.size,n.block⟩);have s:Rws w7 w.heap.size k D:=ff r7 (by first|omega|(simp;omega));clear r7 n)
      all_goals
       go_simp;go_wp2_with fail;go_meet
       case rel=>exact⟨s,q8⟩
     case rest =>
      obtain⟨s,b8⟩:=hcut;rw[ah]at b8;obtain⟨a8,c8,a7⟩:=db s;subst a7;have au:Hid (Rws _ w.heap.size (.slice a8 D.length c8) D):=s;have av:=m.out.trans (b8.mono m.out.size);have aj:Hid (Below w.heap.size w _):=t.out.trans (av.mono t.out.size);have hf:=(HV.out.below av).full;have aO:=ag hf;clear s b8 av M N O Q S T U V X I A Y Z J aD;by_cases hD:D.length<=60
      .have aM:¬ (60:Int)<(D.length:Int):=by omega
       have ao:Hid (apC R l o=0):=by show _=_;rw[HC.out,if_pos hD]
       clear HC hD;go_wp2;go_ret2;exact⟨.inl ⟨ao.out,_,rfl,by rw[ab.out];exact au.out⟩,aj.out⟩
      .have aM:(60:Int)<(D.length:Int):=by omega
       have aI:Hid (apC R l o=3):=by show _=_;rw[HC.out,if_neg hD]
       clear HC hD;go_wp2;go_quiet (fail)
       go_wp2;go_ret2;exact⟨.inr (.inr (.inl ⟨aI.out,rfl⟩)),qq aj.out _⟩
  .have ap:Hid (apC R l o=2):=ud (by rw[decide_eq_false af,Bool.and_false])
   have aU:(60:Int)<(o.val.size:Int):=by omega
   generalize kn7 o=kd at *;go_enter func89,ntmps89;go_upto_region 1 with fail
   rw[<- L.out];go_cut [6,7] from 11 to 20 (fun v6 k wx=>v6=.string key/\k=.nilIface/\Below W.heap.size W wx)
   case first =>
    go_region_with (go_at_call 94;refine (f _ (by repeat (first|exact bX|refine Below.drew ?_))).mono ?_;rintro e w5 ⟨rfl,a⟩;have C:Below W.heap.size W w5:=⟨a.os,a.tape,a.output,a.size,a.block⟩;clear a)
    all_goals
     go_simp;go_wp2_with fail;go_meet
     case rel=>exact⟨rfl,rfl,C⟩
   case rest =>
    obtain⟨y,z,a⟩:=hcut;subst y;subst z;obtain⟨J,A,Y,Z⟩:=(K.out.below a).facts;have hf:=(HV.out.below a).long;have aO:=ag hf;have m:=hZ (t.out.trans (a.mono t.out.size));clear a f;go_wp2;go_quiet (fail)
    go_wp2;go_ret2;exact⟨.inr (.inl ⟨ap.out,rfl⟩),qq m.out _⟩
 .have ad:∀ u:World,Below W.heap.size W u->Calls prog 94 #[.agg #[.slice va R.es.length vc,.bool R.sh,.int .i64 R.lv],.string o.text] u fun e w'=>e=.returned (.tuple #[.string ⟨#[]⟩,.iface 298 (.pointer (some pl))])/\Below u.heap.size u w':=fun u i=>by
   have q:=f u i;rw[if_neg a1]at q;exact q
  clear f;have f:=ad;clear ad;have ap:Hid (apC R l o=2):=ud (by rw[show iz R o.text=false by simpa using a1];rfl);generalize kn7 o=kd at *;go_enter func89,ntmps89;go_upto_region 1 with fail
  rw[<- L.out];go_cut [6,7] from 11 to 20 (fun v6 k wx=>v6=.string ⟨#[]⟩/\k=.iface 298 (.pointer (some pl))/\Below W.heap.size W wx)
  case first =>
   go_region_with (go_at_call 94;refine (f _ (by repeat (first|exact bX|refine Below.drew ?_))).mono ?_;rintro e w5 ⟨rfl,a⟩;have C:Below W.heap.size W w5:=⟨a.os,a.tape,a.output,a.size,a.block⟩;clear a)
   all_goals
    go_simp;go_wp2_with fail;go_meet
    case rel=>exact⟨rfl,rfl,C⟩
  case rest =>
   obtain⟨y,z,a⟩:=hcut;subst y;subst z;have m:=hZ (t.out.trans (a.mono t.out.size));clear a f;go_wp2;go_ret2;exact⟨.inr (.inl ⟨ap.out,rfl⟩),m.out⟩
theorem Wm {w:World} {g l0 cap p:Nat} {l:List Rw}(f:l0=l.length) (k:p<=l0) (j:l0<=cap) (i:dc w (some ⟨g,0,none⟩) l) :
  ∃ (c:Option Addr) (e c2:Nat),(∀ u,Below w.heap.size w u->SlV u (.slice c e c2) (l.drop p))/\∀ u:World,(Instr.slice 32 (.slice (some ⟨g,0,none⟩) l0 cap) (some (.int .i64 (p:Int))) none none).run prog u=.ok (.slice c e c2) u:=by
 subst f;have b:(l.drop p).length=l.length-p:=List.length_drop;by_cases a:cap=p
 .refine⟨some ⟨g,0,none⟩,0,0,fun u _=>⟨_,_,by rw[b,show l.length-p=0 by omega],.inl (List.drop_eq_nil_of_le (by omega))⟩,fun u=>?_⟩
  have:=ux (P:=prog) u 32 37 3 underlying32 Db (some ⟨g,0,none⟩) l.length cap p (by omega);rw[this,if_pos a,show l.length-p=0 by omega,show cap-p=0 by omega]
 .refine⟨some ⟨g,p*3,none⟩,l.length-p,cap-p,fun u hu=>⟨_,_,by rw[b],by have d:=(i.below hu bR).drop p;rw[Nat.zero_add]at d;exact d⟩,fun u=>?_⟩
  have:=ux (P:=prog) u 32 37 3 underlying32 Db (some ⟨g,0,none⟩) l.length cap p (by omega);rw[this,if_neg a];by_cases h:p=0
  .subst h;simp[Addr.add]
  .simp[Addr.add]
   try omega
theorem a15 {w:World} {B:Nat} {v:Value} {l:List Rw} {p:Nat}(b:Rws w B v l) (x:p<l.length) (R:l.length<=1048576) :
  Calls prog 117 #[v,.int .i64 (p:Int)] w fun e w'=>∃ v',e=.returned v'/\Rws w' w.heap.size v' (l.take p++l.drop (p+1))/\Below w.heap.size w w':=by
 obtain⟨g,cap,rfl,I,J⟩:∃ g cap,v=.slice (some ⟨g,0,none⟩) l.length cap/\l.length<=cap/\cap<=maxLen:=by
  rcases b.form with ⟨_,K⟩|h
  .rw[K]at x;simp at x
  .exact h
 obtain⟨a,o⟩:∃ a,a=p+1:=⟨_,rfl⟩
 rw[<- o];have N:(p:Int)+1=(a:Int):=by omega
 have O:IntKind.i64.wrap (a:Int)=(a:Int):=by unfold maxLen at J;rw[IntKind.wrap_i64];omega
 have P:(p:Int)<=(cap:Int):=by omega
 have d:Hid ((l.take p).length=p):=by show _=_;rw[List.length_take];omega
 have D:Hid ((l.drop a).length=l.length-a):=List.length_drop;obtain⟨r,A,s,q,Q⟩:=Wm (p:=a) (cap:=cap) rfl (by omega) I (ja b);have G:=hZ q;have k:Below w.heap.size w (w.alloc (.cells #[] 37)):=bY _;have f:=hZ k;have F:Hid (SlV (w.alloc (.cells #[] 37)) (.slice (some ⟨g,0,none⟩) p cap) (l.take p)):=⟨_,_,by rw[d.out],(ja (b.below k)).take p⟩;have n:Hid (Rws (w.alloc (.cells #[] 37)) w.heap.size (.slice (some ⟨w.heap.size,0,none⟩) 0 0) []):=um w _ _ rfl bR;clear b q k o;go_enter func117,ntmps117
 go_wp2_with (at_builtin;refine gi rfl _ _ rfl w.heap.size (.slice (some ⟨w.heap.size,0,none⟩) 0 0) (.slice (some ⟨g,0,none⟩) p cap) [] (l.take p) rfl rfl n.out F.out (by rw[d.out];simp;omega) f.out.size ?_)
 intro L w1 y t;have i:Below w.heap.size w w1:=Below.grown f.out t f.out.size (fun j hj=>(World.ownsRow.lt n.out j hj).1);have m:=hZ y;have c:=hZ i;have H:Hid (SlV w1 (.slice r A s) (l.drop a)):=G.out w1 i;clear y t i;go_wp2_with (at_builtin;refine gi rfl _ _ rfl w.heap.size L (.slice r A s) (l.take p) (l.drop a) rfl rfl m.out H.out (by rw[d.out,D.out];omega) c.out.size ?_)
 intro S M z u;have C:Hid (Below w.heap.size w M):=Below.grown c.out u c.out.size (fun j hj=>(World.ownsRow.lt m.out j hj).1);have E:=hZ z;clear z u;go_wp2;go_ret;exact⟨_,rfl,E.out,C.out⟩
def mr (u:World) (p:Nat) (x:Rw):Prop:=u.heap[p]? = some (.cells #[.string x.key,.string x.text,.string x.val] 37)
theorem mr.below {u u':World} {p:Nat} {x:Rw}(h:mr u p x) (a:Below u.heap.size u u'):mr u' p x:=(a.block p (Array.getElem?_eq_some_iff.1 h).1).trans h
theorem mr.facts {u:World} {p:Nat} {x:Rw}(h:mr u p x):p<u.heap.size/\u.cell? ⟨p,0,none⟩=some (.string x.key)/\u.cell? ⟨p,1,none⟩=some (.string x.text)/\u.cell? ⟨p,2,none⟩=some (.string x.val) :=
 ⟨(Array.getElem?_eq_some_iff.1 h).1,cell_of_row _ _ 0 _ _ _ h,cell_of_row _ _ 1 _ _ _ h,cell_of_row _ _ 2 _ _ _ h⟩
theorem ao1 {w:World} {B:Nat} {v:Value} {l:List Rw}(x:Rw) (I:Rws w B v l) (hl:l.length<=1000000) (N:m6 l) :
  Calls prog 116 #[v,.agg #[.string x.key,.string x.text,.string x.val]] w fun e w'=>∃ v',e=.returned v'/\Rws w' w.heap.size v' (jc l x)/\Below w.heap.size w w':=by
 obtain⟨W,S⟩:∃ W,W=w.alloc (.cells #[.string x.key,.string x.text,.string x.val] 37):=⟨_,rfl⟩
 have hb:Below w.heap.size w W:=by rw[S];exact bY _
 have R:=hZ hb;have O:Hid (mr W w.heap.size x):=by show _=_;rw[S];exact heap_alloc_new w _
 have HW:=hZ S;obtain⟨Q,T,U,V⟩:=O.out.facts;have ab:=(nz x.key N).1;have P:Hid (jc l x=l.take (ba l x.key)++([x]++l.drop (if di l x.key=true then ba l x.key+1 else ba l x.key))):=rfl;rcases I.form with ⟨rfl,rfl⟩|⟨g,cap,rfl,af,an⟩
 .have m:=Fg (w:=W) (a:=none) (c:=0) (l:=[]) x.key (.inl rfl) (by simp) N
  have ag:ba [] x.key=0:=by simpa using ab
  have ai:di [] x.key=false:=rfl;rw[ag,ai]at m;have a0:Hid (jc [] x=(([]:List Rw)++[x])++[]):=by show _=_;rw[P.out];simp
  have i:Hid (([]:List Rw).length=0):=rfl;have a4:Hid (([]:List Rw).length=0):=rfl;have a5:Hid (∀ u,Below w.heap.size w u->SlV u (.slice none 0 0) ([]:List Rw)):=fun u _=>⟨none,0,rfl,.inl rfl⟩
  clear I hb S N ab P ag ai;go_enter func116,ntmps116;go_wp2_with fail;rw[<- HW.out];go_wp2_with fail;refine m.mono ?_;clear m;rintro e b ⟨rfl,f⟩;obtain⟨Q,T,U,V⟩:=(mr.below O.out f).facts;have ad:=hZ f;have Z:=hZ (mr.below O.out f);have d:=hZ (R.out.trans (f.mono R.out.size));have k:Hid (Below b.heap.size b (b.alloc (.cells #[] 37))):=bY _;have r:Hid (Rws (b.alloc (.cells #[] 37)) b.heap.size (.slice (some ⟨b.heap.size,0,none⟩) 0 0) []):=um b _ _ rfl bR;have C:Hid (SlV (b.alloc (.cells #[] 37)) (.slice none 0 0) []):=⟨none,0,rfl,.inl rfl⟩;clear f
  go_wp2_with (at_builtin;refine gi rfl _ _ rfl b.heap.size (.slice (some ⟨b.heap.size,0,none⟩) 0 0) (.slice none 0 0) [] [] rfl rfl r.out C.out (by first|(rw[i.out];simp;omega)|simp) k.out.size ?_)
  intro K w3 J F;have h:Below b.heap.size b w3:=Below.grown k.out F k.out.size (fun j hj=>(World.ownsRow.lt r.out j hj).1);have ae:=hZ h;have q:Hid (Rws (w3.alloc (.cells #[.string x.key,.string x.text,.string x.val] 37)) b.heap.size K []):=Rws.below J (bY _);have D:Hid (SlV (w3.alloc (.cells #[.string x.key,.string x.text,.string x.val] 37)) (.slice (some ⟨w3.heap.size,0,none⟩) 1 1) [x]):=(kh w3 _ w3.heap.size x rfl bR).slV;have X:Hid (Below w3.heap.size w3 (w3.alloc (.cells #[.string x.key,.string x.text,.string x.val] 37))):=bY _;have n:=hZ (h.trans (X.out.mono h.size));obtain⟨a1,a8,a9,aa⟩:=(mr.below Z.out h).facts
  clear J F h T U V Q r C;go_wp2_with (at_builtin;refine gi rfl _ _ rfl b.heap.size K (.slice (some ⟨w3.heap.size,0,none⟩) 1 1) [] [x] rfl rfl q.out D.out (by first|(rw[i.out];simp;omega)|simp) n.out.size ?_)
  intro L w4 t G;have s:Below b.heap.size b w4:=Below.grown n.out G n.out.size (fun j hj=>(World.ownsRow.lt q.out j hj).1);have o:=hZ s;have A:Hid (Rws w4 b.heap.size L (([]:List Rw)++[x])):=(by first|exact t|simpa using t);have a6:Hid (SlV w4 (.slice none 0 0) []):=a5.out w4 (d.out.trans (s.mono d.out.size));clear t G s a8 a9 aa a1 q D;go_wp2_with (at_builtin;refine gi rfl _ _ rfl b.heap.size L (.slice none 0 0) (([]:List Rw)++[x]) [] rfl rfl A.out a6.out (by first|(rw[List.length_append,i.out,a4.out];simp;omega)|simp) o.out.size ?_)
  intro v5 M y H;have Y:Hid (Below w.heap.size w M):=d.out.trans ((Below.grown o.out H o.out.size (fun j hj=>(World.ownsRow.lt A.out j hj).1)).mono d.out.size);have a3:Hid (Rws M w.heap.size v5 (jc [] x)):=by show Rws _ _ _ _;rw[a0.out];exact ff (by first|exact y|simpa using y) d.out.size
  clear y H;go_wp2;go_ret;exact⟨_,rfl,a3.out,Y.out⟩
 .have m:=Fg (w:=W) (c:=cap) x.key (ja (I.below hb)) (by omega) N
  have HR:=hZ I
  cases hth:di l x.key
  .rw[hth]at m
   have E:jc l x=(l.take (ba l x.key)++[x])++l.drop (ba l x.key):=by rw[P.out,hth,if_neg (by simp),List.append_assoc]
   generalize ba l x.key=p at m E ab;have a0:=hZ E;have am:(p:Int)<=(cap:Int):=by omega
   have i:Hid ((l.take p).length=p):=by show _=_;rw[List.length_take];omega
   have a4:Hid ((l.drop p).length=l.length-p):=List.length_drop;obtain⟨a2,n2,c2,a7,ac⟩:=Wm (p:=p) (cap:=cap) rfl (by omega) af (ja I);have a5:=hZ a7;clear I hb S N P hth E a7;go_enter func116,ntmps116;go_wp2_with fail;rw[<- HW.out];go_wp2_with fail;refine m.mono ?_;clear m;rintro e b ⟨rfl,f⟩;obtain⟨Q,T,U,V⟩:=(mr.below O.out f).facts;have ad:=hZ f;have Z:=hZ (mr.below O.out f);have d:=hZ (R.out.trans (f.mono R.out.size));have k:Hid (Below b.heap.size b (b.alloc (.cells #[] 37))):=bY _;have r:Hid (Rws (b.alloc (.cells #[] 37)) b.heap.size (.slice (some ⟨b.heap.size,0,none⟩) 0 0) []):=um b _ _ rfl bR
   have C:Hid (SlV (b.alloc (.cells #[] 37)) (.slice (some ⟨g,0,none⟩) p cap) (l.take p)):=⟨_,_,by rw[i.out],(ja (HR.out.below (d.out.trans (k.out.mono d.out.size)))).take p⟩;clear f;go_wp2_with (at_builtin;refine gi rfl _ _ rfl b.heap.size (.slice (some ⟨b.heap.size,0,none⟩) 0 0) (.slice (some ⟨g,0,none⟩) p cap) [] (l.take p) rfl rfl r.out C.out (by first|(rw[i.out];simp;omega)|simp) k.out.size ?_)
   intro K w3 J F;have h:Below b.heap.size b w3:=Below.grown k.out F k.out.size (fun j hj=>(World.ownsRow.lt r.out j hj).1);have ae:=hZ h;have q:Hid (Rws (w3.alloc (.cells #[.string x.key,.string x.text,.string x.val] 37)) b.heap.size K (l.take p)):=Rws.below J (bY _);have D:Hid (SlV (w3.alloc (.cells #[.string x.key,.string x.text,.string x.val] 37)) (.slice (some ⟨w3.heap.size,0,none⟩) 1 1) [x]):=(kh w3 _ w3.heap.size x rfl bR).slV;have X:Hid (Below w3.heap.size w3 (w3.alloc (.cells #[.string x.key,.string x.text,.string x.val] 37))):=bY _;have n:=hZ (h.trans (X.out.mono h.size));obtain⟨a1,a8,a9,aa⟩:=(mr.below Z.out h).facts
   clear J F h T U V Q r C;go_wp2_with (at_builtin;refine gi rfl _ _ rfl b.heap.size K (.slice (some ⟨w3.heap.size,0,none⟩) 1 1) (l.take p) [x] rfl rfl q.out D.out (by first|(rw[i.out];simp;omega)|simp) n.out.size ?_)
   intro L w4 t G;have s:Below b.heap.size b w4:=Below.grown n.out G n.out.size (fun j hj=>(World.ownsRow.lt q.out j hj).1);have o:=hZ s;have A:Hid (Rws w4 b.heap.size L ((l.take p)++[x])):=(by first|exact t|simpa using t);have a6:Hid (SlV w4 (.slice a2 n2 c2) (l.drop p)):=a5.out w4 (d.out.trans (s.mono d.out.size));clear t G s a8 a9 aa a1 q D;go_wp2_with (at_builtin;refine gi rfl _ _ rfl b.heap.size L (.slice a2 n2 c2) ((l.take p)++[x]) (l.drop p) rfl rfl A.out a6.out (by first|(rw[List.length_append,i.out,a4.out];simp;omega)|simp) o.out.size ?_)
   intro v5 M y H;have Y:Hid (Below w.heap.size w M):=d.out.trans ((Below.grown o.out H o.out.size (fun j hj=>(World.ownsRow.lt A.out j hj).1)).mono d.out.size);have a3:Hid (Rws M w.heap.size v5 (jc l x)):=by show Rws _ _ _ _;rw[a0.out];exact ff (by first|exact y|simpa using y) d.out.size
   clear y H;go_wp2;go_ret;exact⟨_,rfl,a3.out,Y.out⟩
  .rw[hth]at m
   have aj:=(qt N hth).2;have E:jc l x=(l.take (ba l x.key)++[x])++l.drop (ba l x.key+1):=by rw[P.out,hth,if_pos rfl,List.append_assoc]
   generalize ba l x.key=p at m E ab aj;obtain⟨z,ah⟩:∃ z,z=p+1:=⟨_,rfl⟩
   rw[<- ah]at E;have ak:(p:Int)+1=(z:Int):=by omega
   have al:IntKind.i64.wrap (z:Int)=(z:Int):=by rw[IntKind.wrap_i64];omega
   have a0:=hZ E;have am:(p:Int)<=(cap:Int):=by omega
   have i:Hid ((l.take p).length=p):=by show _=_;rw[List.length_take];omega
   have a4:Hid ((l.drop z).length=l.length-z):=List.length_drop;obtain⟨a2,n2,c2,a7,ac⟩:=Wm (p:=z) (cap:=cap) rfl (by omega) af (ja I);have a5:=hZ a7;clear I hb S N P hth E a7 ah;go_enter func116,ntmps116;go_wp2_with fail;rw[<- HW.out];go_wp2_with fail;refine m.mono ?_;clear m;rintro e b ⟨rfl,f⟩;obtain⟨Q,T,U,V⟩:=(mr.below O.out f).facts;have ad:=hZ f;have Z:=hZ (mr.below O.out f);have d:=hZ (R.out.trans (f.mono R.out.size));have k:Hid (Below b.heap.size b (b.alloc (.cells #[] 37))):=bY _;have r:Hid (Rws (b.alloc (.cells #[] 37)) b.heap.size (.slice (some ⟨b.heap.size,0,none⟩) 0 0) []):=um b _ _ rfl bR
   have C:Hid (SlV (b.alloc (.cells #[] 37)) (.slice (some ⟨g,0,none⟩) p cap) (l.take p)):=⟨_,_,by rw[i.out],(ja (HR.out.below (d.out.trans (k.out.mono d.out.size)))).take p⟩;clear f;go_wp2_with (at_builtin;refine gi rfl _ _ rfl b.heap.size (.slice (some ⟨b.heap.size,0,none⟩) 0 0) (.slice (some ⟨g,0,none⟩) p cap) [] (l.take p) rfl rfl r.out C.out (by first|(rw[i.out];simp;omega)|simp) k.out.size ?_)
   intro K w3 J F;have h:Below b.heap.size b w3:=Below.grown k.out F k.out.size (fun j hj=>(World.ownsRow.lt r.out j hj).1);have ae:=hZ h;have q:Hid (Rws (w3.alloc (.cells #[.string x.key,.string x.text,.string x.val] 37)) b.heap.size K (l.take p)):=Rws.below J (bY _);have D:Hid (SlV (w3.alloc (.cells #[.string x.key,.string x.text,.string x.val] 37)) (.slice (some ⟨w3.heap.size,0,none⟩) 1 1) [x]):=(kh w3 _ w3.heap.size x rfl bR).slV;have X:Hid (Below w3.heap.size w3 (w3.alloc (.cells #[.string x.key,.string x.text,.string x.val] 37))):=bY _;have n:=hZ (h.trans (X.out.mono h.size));obtain⟨a1,a8,a9,aa⟩:=(mr.below Z.out h).facts
   clear J F h T U V Q r C;go_wp2_with (at_builtin;refine gi rfl _ _ rfl b.heap.size K (.slice (some ⟨w3.heap.size,0,none⟩) 1 1) (l.take p) [x] rfl rfl q.out D.out (by first|(rw[i.out];simp;omega)|simp) n.out.size ?_)
   intro L w4 t G;have s:Below b.heap.size b w4:=Below.grown n.out G n.out.size (fun j hj=>(World.ownsRow.lt q.out j hj).1);have o:=hZ s;have A:Hid (Rws w4 b.heap.size L ((l.take p)++[x])):=(by first|exact t|simpa using t);have a6:Hid (SlV w4 (.slice a2 n2 c2) (l.drop z)):=a5.out w4 (d.out.trans (s.mono d.out.size));clear t G s a8 a9 aa a1 q D;go_wp2_with (at_builtin;refine gi rfl _ _ rfl b.heap.size L (.slice a2 n2 c2) ((l.take p)++[x]) (l.drop z) rfl rfl A.out a6.out (by first|(rw[List.length_append,i.out,a4.out];simp;omega)|simp) o.out.size ?_)
   intro v5 M y H;have Y:Hid (Below w.heap.size w M):=d.out.trans ((Below.grown o.out H o.out.size (fun j hj=>(World.ownsRow.lt A.out j hj).1)).mono d.out.size);have a3:Hid (Rws M w.heap.size v5 (jc l x)):=by show Rws _ _ _ _;rw[a0.out];exact ff (by first|exact y|simpa using y) d.out.size
   clear y H;go_wp2;go_ret;exact⟨_,rfl,a3.out,Y.out⟩
theorem ic {u:World} {B e size n b t:Nat} {v:Value} {xs:List Value} {cs:Array Value}(h:u.ownsRow B e size v n xs) (a:u.heap[b]? = some (.cells cs t (0,0))) (i:e≠t):v.ownBlock=none\/v.ownBlock≠some b:=by
 rcases h.2 with ⟨rfl,_⟩|⟨g,k,l,rfl,_,j,_⟩
 .exact .inl rfl
 .refine .inr fun c=>?_
  have:g=b:=Option.some.inj c;subst this;rw[j]at a;injection a with d;injection d with _ f _;exact i f
theorem ac.boxT {u u':World} {B b:Nat} {v:Value} {es:List Ent} {cs:Array Value} {t:TypeId}(h:ac u B v es) (c:u.heap[b]? = some (.cells cs t (0,0))) (h1:117≠t) (h2:3≠t) (d:u.grownBy u' (some b)):ac u' B v es:=by
 obtain⟨i,f,q1,q2⟩:=h;refine⟨i,f,World.ownsRow.kept q1 d (ic q1 c h1),fun k e he=>?_⟩;obtain⟨x,g,a⟩:=q2 k e he;exact⟨x,g,World.ownsRow.kept a d (ic a c h2)⟩
theorem d8 (w:World) (g k:Nat) (u:Value):w.grownBy (w.setCell ⟨g,k,none⟩ u) (some g) :=
 ⟨rfl,rfl,rfl,by simp,fun i hi hn=>heap_setCell_other _ ⟨g,k,none⟩ i _ (fun e=>hn (by rw[e]))⟩
theorem jz.rows {u:World} {b:Nat} {a:Value} {sh:Bool} {lv:Int} {r:ByteArray} {c:Value} {log:ByteArray} {syn:Int} {vr:Value}(h:jz u b a sh lv r c log syn vr) (vr':Value):jz (u.setCell ⟨b,7,none⟩ vr') b a sh lv r c log syn vr':=by
 have e:=heap_setCell_same u b 7 _ _ vr' h;show _=_
 rw[e];simp
structure Ix7 (w:World) (lo b:Nat) (ve:Value) (R:RA) (r:ByteArray) (vp:Value) (ss:List ByteArray) (log:ByteArray) (syn:Int) (vr:Value) (l:List Rw):Prop where
 box:jz w b ve R.sh R.lv r vp log syn vr
 ents:ac w lo ve R.es
 pages:ah w lo vp ss
 rows:Rws w lo vr l
 low:lo<=b
theorem Ix7.below {w w':World} {c b:Nat} {d:Value} {R:RA} {r:ByteArray} {e:Value} {ss:List ByteArray} {log:ByteArray} {syn:Int} {vr:Value} {l:List Rw}(h:Ix7 w c b d R r e ss log syn vr l) (a:Below w.heap.size w w'):Ix7 w' c b d R r e ss log syn vr l :=
 ⟨h.box.below a,h.ents.below a,h.pages.below a,h.rows.below a,h.low⟩
theorem Ix7.putRows {w:World} {a b:Nat} {d:Value} {R:RA} {r:ByteArray} {e:Value} {ss:List ByteArray} {log:ByteArray} {syn:Int} {vr:Value} {l:List Rw}(h:Ix7 w a b d R r e ss log syn vr l){vr':Value} {l':List Rw}(c:Rws w a vr' l') :
  Ix7 (w.setCell ⟨b,7,none⟩ vr') a b d R r e ss log syn vr' l' :=
 have g:=d8 w b 7 vr';⟨h.box.rows vr',h.ents.boxT h.box (by decide) (by decide) g,World.ownsRow.kept h.pages g (ic h.pages h.box (by decide)),World.ownsRow.kept c g (ic c h.box (by decide)),h.low⟩
theorem bg.lists7 {w:World} {o hi:Nat} {v:Value} {gs:List (List Rw)} {vs:List Value}(h:bg w o hi v gs vs):sm w v gs:=by
 obtain⟨a,c,rfl,d⟩:=h.form;refine⟨a,c,rfl,?_⟩
 cases gs with
 | nil=>exact .inl rfl
 | cons g0 gs' =>
  obtain⟨p,f,_⟩:=h.ins 0 g0 rfl;obtain⟨g,rfl,_,_,_⟩:=d 0 p f;refine .inr ⟨g,0,rfl,fun k q hq=>?_⟩;obtain⟨x,n,e,_⟩:=h.ins k q hq;obtain⟨r,b,_,_,l,_⟩:=d k x n;obtain⟨i,j,m⟩:=db e;subst m;injection b with b;injection b with b;subst b;exact⟨i,j,by rw[Nat.zero_add];exact l,ja e⟩
end Go.Proofs.YtjbmgghehdemdaaGreatDoor
