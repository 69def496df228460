/- PDo7 -/
import Derived.Test.YtjbmgghehdemdaaGreatDoorMT26
import Derived.Test.YtjbmgghehdemdaaGreatDoorMT25
import Derived.Test.YtjbmgghehdemdaaGreatDoorMT28
import Derived.Test.YtjbmgghehdemdaaGreatDoorMT29
import Derived.Test.YtjbmgghehdemdaaGreatDoorMT35
import Derived.Test.YtjbmgghehdemdaaGreatDoorMT33
namespace Go.Proofs.YtjbmgghehdemdaaGreatDoor
set_option maxRecDepth 100000
set_option maxHeartbeats 16000000
open _root_.Go.Proofs.Tryz
open Go.RowKit
theorem Wm {s:ByteArray} {o:Dn} {n:Nat}(h:io s=some (o,n)):bq s=some (o,n)∧o.text.size≤60∧o.val.size≤60:=by
 unfold io at h
 cases hr:bq s with
 | none=>rw[hr]at h;cases h
 | some p =>
  obtain⟨o',n'⟩:=p;rw[hr]at h;have h':(if o'.text.size≤60∧o'.val.size≤60 then some (o',n') else none)=some (o,n):=h;split at h'
  .rename_i hl
   cases h'
   exact⟨rfl,hl⟩
  .cases h'
theorem a31 {R:RA} {l:List Rw} {s:ByteArray}(h0:s.size≠0) (h:io s=none):pj R l s=none:=by
 cases hr:bq s with
 | none=>exact a30 h0 hr
 | some p =>
  obtain⟨o,n⟩:=p;refine Ot hr ?_;have hn:¬ (o.text.size≤60∧o.val.size≤60):=fun c=>by rw[Cx hr c]at h;cases h
  have hf:(gn R o.text && decide (o.val.size≤60))=false:=by
   cases hq:(gn R o.text && decide (o.val.size≤60))
   .rfl
   .rw[Bool.and_eq_true,decide_eq_true_eq]at hq
    exact absurd ⟨(vk hq.1).1,hq.2⟩ hn
  rw[rz hf];decide
theorem Wu {R:RA} {l:List Rw}(h:im R l):dm l=true :=
 oh.2 ⟨h.len,fun x hx=>by
  have:=h.sz x hx;unfold sz1;rw[decide_eq_true (by omega),decide_eq_true (by omega),decide_eq_true (by omega)];rfl,wo h.rise⟩
structure Ds7 where
 r:ByteArray
 ss:List ByteArray
 log:ByteArray
 syn:Int
def zD7:Ds7:=⟨⟨#[]⟩,[],⟨#[]⟩,0⟩
def dn7 (k:Int) (x v:ByteArray):Dn:=⟨decide (k=1),x,v⟩
def oo (o:Dn):ByteArray :=
 if o.put=true then ⟨#[112]⟩++⟨#[UInt8.ofNat o.text.size,UInt8.ofNat o.val.size]⟩++o.text++o.val++⟨#[46]⟩ else ⟨#[100]⟩++⟨#[UInt8.ofNat o.text.size]⟩++o.text++⟨#[46]⟩
theorem a24 (o:Dn):(oo o).size=if o.put=true then 4+o.text.size+o.val.size else 3+o.text.size:=by
 unfold oo;split
 .simp only[ByteArray.size_append]
  show 1+2+o.text.size+o.val.size+1=_
  omega
 .simp only[ByteArray.size_append]
  show 1+1+o.text.size+1=_
  omega
def Am (k:Int) (x v:ByteArray):Bool:=decide (1≤k∧k≤4∧((k=3∨k=4)→x.size=0)∧(k≠1→v.size=0))
def ov (d:Ds7):Bool:=decide (0≤d.syn∧d.syn≤(d.log.size:Int))
def fu (d:Ds7):Option (List Rw):=dx (aa d.r) d.ss d.log
def doL (d:Ds7) (l:List Rw) (k:Int) (x v:ByteArray):Int × Ds7 :=
 if k=3 then (0,{ d with syn:=(d.log.size:Int) })
 else if k=4 then (match pu l with
  | some pp=>(0,{ d with ss:=pp,log:=⟨#[]⟩,syn:=0 })
  | none=>(3,d))
 else if apC (aa d.r) l (dn7 k x v)=0 then (if d.log.size+(oo (dn7 k x v)).size≤6000 then (0,{ d with log:=d.log++oo (dn7 k x v) }) else (3,d))
 else (apC (aa d.r) l (dn7 k x v),d)
def do7 (d:Ds7) (k:Int) (x v:ByteArray):Int × Ds7 :=
 match fu d with
 | none=>(1,zD7)
 | some l=>if (ov d && Am k x v)=true then doL d l k x v else (1,zD7)
structure Ok7 (d:Ds7):Prop where
 rules:d.r.size≤1048576
 pages:d.ss.length≤1048576
 page:∀ s ∈ d.ss,s.size≤1048576
 side:q9 d.ss
 log:d.log.size≤1000000
theorem Xa {l:List Rw} {p:List ByteArray}(hl:l.length≤60) (hz:∀ x ∈ l,x.text.size≤60∧x.val.size≤60) (h:pu l=some p):q9 p:=by
 obtain⟨gs,hb,hf,_⟩:=Ay h;intro a1 a0;rw[hb]at a0
 cases a0
 rw[hf];exact⟨hl,hz⟩
theorem as9 {d:Ds7} {l:List Rw}(h:Ok7 d) (hl:im (aa d.r) l) (k:Int) (x v:ByteArray):Ok7 (doL d l k x v).2:=by
 unfold doL;split
 .exact⟨h.rules,h.pages,h.page,h.side,h.log⟩
 split
 .split
  .rename_i pp hp
   obtain⟨_,_,_,_,_,a0,hz⟩:=Ay hp;exact⟨h.rules,by show pp.length≤_;omega,fun s hs=>by have:=hz s hs;omega,Xa hl.len (fun x hx=>⟨(hl.sz x hx).1,(hl.sz x hx).2.1⟩) hp,by show 0≤1000000;omega⟩
  .exact h
 split
 .split
  .rename_i hs
   exact⟨h.rules,h.pages,h.page,h.side,by show (d.log++_).size≤_;rw[ByteArray.size_append];omega⟩
  .exact h
 .exact h
theorem Pb:q9 []:=fun gs h=>by
 have:gs=[]:=by
  unfold ca at h;rw[if_pos (by show 0≤40;omega)]at h;have h':some []=some gs:=h
  cases h'
  rfl
 subst this;exact⟨by show 0≤60;omega,fun x hx=>by cases hx⟩
theorem a63:Ok7 zD7:=⟨Nat.zero_le _,Nat.zero_le _,fun s hs=>(by cases hs),Pb,Nat.zero_le _⟩
theorem jz {d:Ds7} {l:List Rw}(h:Ok7 d) (ho:fu d=some l):im (aa d.r) l:=Vz h.side ho
theorem as8 {d:Ds7}(h:Ok7 d) (k:Int) (x v:ByteArray):Ok7 (do7 d k x v).2:=by
 unfold do7;split
 .exact a63
 .rename_i l ho
  split
  .exact as9 h (jz h ho) k x v
  .exact a63
theorem iw {u:World} {B e size n b t:Nat} {v:Value} {xs:List Value} {cs:Array Value}(h:u.ownsRow B e size v n xs) (hb:u.heap[b]? = some (.cells cs t (0,0))) (he:e≠t):v.ownBlock=none∨v.ownBlock≠some b:=by
 rcases h.2 with ⟨rfl,_⟩|⟨g,cap,cur,rfl,_,hg,_⟩
 .exact .inl rfl
 .refine .inr fun c=>?_
  have:g=b:=Option.some.inj c;subst this;rw[hg]at hb;injection hb with e1;injection e1 with _ e2 _;exact he e2
theorem ac.boxT {u u':World} {B b:Nat} {v:Value} {es:List Ent} {cs:Array Value} {t:TypeId}(h:ac u B v es) (hb:u.heap[b]? = some (.cells cs t (0,0))) (h1:117≠t) (h2:3≠t) (hg:u.grownBy u' (some b)):ac u' B v es:=by
 obtain⟨xs,hl,q1,q2⟩:=h;refine⟨xs,hl,World.ownsRow.kept q1 hg (iw q1 hb h1),fun k e he=>?_⟩;obtain⟨x,hx,hI⟩:=q2 k e he;exact⟨x,hx,World.ownsRow.kept hI hg (iw hI hb h2)⟩
theorem dq (w:World) (g k:Nat) (u:Value):w.grownBy (w.setCell ⟨g,k,none⟩ u) (some g) :=
 ⟨rfl,rfl,rfl,by simp,fun i hi hn=>heap_setCell_other _ ⟨g,k,none⟩ i _ (fun e=>hn (by rw[e]))⟩
theorem ny.rows {u:World} {b:Nat} {ve:Value} {sh:Bool} {lv:Int} {r:ByteArray} {vp:Value} {log:ByteArray} {syn:Int} {vr:Value}(h:ny u b ve sh lv r vp log syn vr) (vr':Value):ny (u.setCell ⟨b,7,none⟩ vr') b ve sh lv r vp log syn vr':=by
 have e:=heap_setCell_same u b 7 _ _ vr' h;show _=_
 rw[e];simp
structure Ix7 (w:World) (lo b:Nat) (ve:Value) (R:RA) (r:ByteArray) (vp:Value) (ss:List ByteArray) (log:ByteArray) (syn:Int) (vr:Value) (l:List Rw):Prop where
 box:ny w b ve R.sh R.lv r vp log syn vr
 ents:ac w lo ve R.es
 pages:ak w lo vp ss
 rows:Rws w lo vr l
 low:lo≤b
theorem Ix7.below {w w':World} {lo b:Nat} {ve:Value} {R:RA} {r:ByteArray} {vp:Value} {ss:List ByteArray} {log:ByteArray} {syn:Int} {vr:Value} {l:List Rw}(h:Ix7 w lo b ve R r vp ss log syn vr l) (hb:Below w.heap.size w w'):Ix7 w' lo b ve R r vp ss log syn vr l :=
 ⟨h.box.below hb,h.ents.below hb,h.pages.below hb,h.rows.below hb,h.low⟩
theorem Ix7.putRows {w:World} {lo b:Nat} {ve:Value} {R:RA} {r:ByteArray} {vp:Value} {ss:List ByteArray} {log:ByteArray} {syn:Int} {vr:Value} {l:List Rw}(h:Ix7 w lo b ve R r vp ss log syn vr l){vr':Value} {l':List Rw}(hr:Rws w lo vr' l') :
  Ix7 (w.setCell ⟨b,7,none⟩ vr') lo b ve R r vp ss log syn vr' l' :=
 have g:=dq w b 7 vr';⟨h.box.rows vr',h.ents.boxT h.box (by decide) (by decide) g,World.ownsRow.kept h.pages g (iw h.pages h.box (by decide)),World.ownsRow.kept hr g (iw hr h.box (by decide)),h.low⟩
theorem bj.lists7 {w:World} {lo hi:Nat} {v:Value} {gs:List (List Rw)} {vs:List Value}(h:bj w lo hi v gs vs):qu w v gs:=by
 obtain⟨a,c,rfl,hf⟩:=h.form;refine⟨a,c,rfl,?_⟩
 cases gs with
 | nil=>exact .inl rfl
 | cons g0 gs' =>
  obtain⟨x0,a0,_⟩:=h.ins 0 g0 rfl;obtain⟨g,rfl,_,_,_⟩:=hf 0 x0 a0;refine .inr ⟨g,0,rfl,fun k q hq=>?_⟩;obtain⟨x,hx,hr,_⟩:=h.ins k q hq;obtain⟨g2,e2,_,_,hc,_⟩:=hf k x hx;obtain⟨ax,cx,hv⟩:=bz hr;subst hv;injection e2 with e2;injection e2 with e2;subst e2;exact⟨ax,cx,by rw[Nat.zero_add];exact hc,ew hr⟩
def zIx:Value:=.agg #[.slice none 0 0,.bool false,.int .i64 0,.string ⟨#[]⟩,.slice none 0 0,.string ⟨#[]⟩,.int .i64 0,.slice none 0 0]
def ixV (ve:Value) (R:RA) (r:ByteArray) (vp:Value) (log:ByteArray) (syn:Int) (vr:Value):Value:=.agg #[ve,.bool R.sh,.int .i64 R.lv,.string r,vp,.string log,.int .i64 syn,vr]
def Ik (pb:Addr) (ev:Value):Prop:=ev=.iface 298 (.pointer (some pb))∨∃ k:Int,ev=.iface 98 (.agg #[.int .i64 k])
def ar8 (w:World) (R:RA) (r:ByteArray) (ss:List ByteArray) (log:ByteArray) (syn:Int) (pb:Addr) (e:Ending) (w':World):Prop :=
 (match dx R ss log with
  | some l=>∃ ve vp vr,e=.returned (.tuple #[ixV ve R r vp log syn vr,.nilIface])∧ac w' w.heap.size ve R.es∧ak w' w.heap.size vp ss∧Rws w' w.heap.size vr l
  | none=>∃ ev,e=.returned (.tuple #[zIx,ev])∧Ik pb ev)∧Below w.heap.size w w'
structure Hd7 (w u:World) (r:ByteArray) (vp:Value) (log:ByteArray) (syn:Int):Prop where
 disk:ba u w.heap.size r vp log syn
 ans:ny u (w.heap.size+1) (.slice none 0 0) false 0 ⟨#[]⟩ (.slice none 0 0) ⟨#[]⟩ 0 (.slice none 0 0)
 bel:Below w.heap.size w u
theorem Hd7.below {w u u':World} {r:ByteArray} {vp:Value} {log:ByteArray} {syn:Int}(h:Hd7 w u r vp log syn) (hb:Below u.heap.size u u'):Hd7 w u' r vp log syn:=⟨h.disk.below hb,h.ans.below hb,h.bel.trans (hb.mono h.bel.size)⟩
theorem Hd7.set {w u:World} {r:ByteArray} {vp:Value} {log:ByteArray} {syn:Int}(h:Hd7 w u r vp log syn){b k:Nat}(hb:w.heap.size+1<b) (x:Value):Hd7 w (u.setCell ⟨b,k,none⟩ x) r vp log syn :=
 ⟨(heap_setCell_other u ⟨b,k,none⟩ w.heap.size x (by show w.heap.size≠b;omega)).trans h.disk,(heap_setCell_other u ⟨b,k,none⟩ (w.heap.size+1) x (by show w.heap.size+1≠b;omega)).trans h.ans,h.bel.setCell (p:=⟨b,k,none⟩) (by show w.heap.size≤b;omega) _⟩
def set8 (u:World) (p:Nat) (a b c d e f g h:Value):World:=(((((((u.setCell ⟨p,0,none⟩ a).setCell ⟨p,1,none⟩ b).setCell ⟨p,2,none⟩ c).setCell ⟨p,3,none⟩ d).setCell ⟨p,4,none⟩ e).setCell ⟨p,5,none⟩ f).setCell ⟨p,6,none⟩ g).setCell ⟨p,7,none⟩ h
theorem wg (u:World) (p:Nat) (a b c d e f g h:Value):u.grownBy (set8 u p a b c d e f g h) (some p) :=
 (((((((dq u p 0 a).trans (dq _ p 1 b)).trans (dq _ p 2 c)).trans (dq _ p 3 d)).trans (dq _ p 4 e)).trans (dq _ p 5 f)).trans (dq _ p 6 g)).trans (dq _ p 7 h)
theorem ro {w u:World} {p:Nat}(h:Below w.heap.size w u) (hp:w.heap.size≤p) (a b c d e f g k:Value):Below w.heap.size w (set8 u p a b c d e f g k) :=
 Below.grown h (wg u p a b c d e f g k) h.size (fun j hj=>by have:=Option.some.inj hj;omega)
theorem Ex {R:RA} {ss:List ByteArray} {log:ByteArray}(h:ca ss=none):dx R ss log=none:=by unfold dx;rw[h]
theorem Ey {R:RA} {ss:List ByteArray} {log:ByteArray}(h:R.code≠0):dx R ss log=none:=by
 unfold dx;split
 .rfl
 .rw[if_neg (fun c=>h c.1)]
theorem Ez {R:RA} {ss:List ByteArray} {log:ByteArray} {gs:List (List Rw)}(h:ca ss=some gs) (hk:iy R gs.flatten=false):dx R ss log=none:=by
 unfold dx;rw[h];show (if _ then _ else _)=none
 rw[if_neg (fun c=>by rw[hk]at c;exact absurd c.2.1 (by simp))]
theorem F4 {R:RA} {ss:List ByteArray} {log:ByteArray}(h:¬ log.size≤6000):dx R ss log=none:=by
 unfold dx;split
 .rfl
 .rw[if_neg (fun c=>h c.2.2)]
theorem Kp {R:RA} {ss:List ByteArray} {log:ByteArray} {gs:List (List Rw)}(h:ca ss=some gs) (h0:R.code=0) (hk:iy R gs.flatten=true) (hl:log.size≤6000):dx R ss log=(jd log).bind (oq R gs.flatten):=by
 unfold dx;rw[h];show (if _ then _ else _)=_
 rw[if_pos ⟨h0,hk,hl⟩];rfl
theorem a29 {R:RA} {l:List Rw} {os:List Dn} {k:Nat} {o:Dn}(h:os[k]? = some o):oq R l (os.drop k)=if apC R l o=0 then oq R (apR R l o) (os.drop (k+1)) else none:=by
 obtain⟨hk,rfl⟩:=List.getElem?_eq_some_iff.1 h;rw[List.drop_eq_getElem_cons hk];rfl
theorem Sz:∀ (f:Nat) (s:ByteArray) (os:List Dn),n9 f s=some os→∀ o ∈ os,o.text.size≤255∧o.val.size≤255
 | 0,s,os,h=>by
  unfold n9 at h;split at h
  .cases h;simp
  .cases h
 | f+1,s,os,h=>by
  unfold n9 at h;split at h
  .cases h;simp
  .cases hr:bq s with
   | none=>rw[hr]at h;cases h
   | some p =>
    obtain⟨o,n⟩:=p;rw[hr]at h
    cases hf:n9 f (s.extract n s.size) with
    | none=>simp only[hf]at h;cases h
    | some os' =>
     simp only[hf,Option.map_some]at h
     cases h
     intro q hq;rcases List.mem_cons.1 hq with rfl|hq
     .exact⟨(T5 hr).1,(T5 hr).2.1⟩
     .exact Sz f _ _ hf q hq
def aj6 (w W:World) (bi:Nat) (ve:Value) (R:RA) (r:ByteArray) (vd:Value) (vp:Value) (ss:List ByteArray) (log:ByteArray) (syn:Int) (vo:Value) (os:List Dn) (ANS:Option (List Rw)) (i:Value) (wr:World):Prop :=
 ∃ (k:Nat) (vr:Value) (l:List Rw),k≤os.length∧i=.int .i64 (k:Int)∧Ix7 wr w.heap.size bi ve R r vp ss log syn vr l∧Hd7 w wr r vd log syn∧Dos wr W.heap.size vo os∧im R l∧oq R l (os.drop k)=ANS
structure qt (w:World) (ty:TypeId) (pv:Value) (pb pl pf pn:Addr):Prop where
 tabs:dr w
 lack:f7 w ty pv
 errs:Ev7 w pb pl pf pn
theorem qt.below {w w':World} {ty:TypeId} {pv:Value} {pb pl pf pn:Addr}(h:qt w ty pv pb pl pf pn) (hb:Below w.heap.size w w'):qt w' ty pv pb pl pf pn :=
 ⟨h.tabs.below hb,(hb.cell (p:=⟨6,0,none⟩) h.lack.lt).trans h.lack,h.errs.below hb⟩
structure Dk7 (w:World) (B:Nat) (vd:Value) (d:Ds7):Prop where
 pages:ak w B vd d.ss
 ok:Ok7 d
theorem Dk7.below {w w':World} {B:Nat} {vd:Value} {d:Ds7}(h:Dk7 w B vd d) (hb:Below w.heap.size w w'):Dk7 w' B vd d:=⟨h.pages.below hb,h.ok⟩
theorem Dk7.form {w:World} {B:Nat} {vd:Value} {d:Ds7}(h:Dk7 w B vd d):∃ a c,vd=.slice a d.ss.length c:=by
 obtain⟨a,c,h1,_⟩:=js h.pages;exact⟨a,c,h1⟩
def cm (d:Ds7):Option (List Rw):=if ov d=true then fu d else none
theorem ad7 {d:Ds7}(h:¬ (0≤d.syn∧d.syn≤(d.log.size:Int))):cm d=none:=by
 unfold cm ov;rw[if_neg (by simpa using h)]
theorem a08 {d:Ds7}(h:0≤d.syn∧d.syn≤(d.log.size:Int)):cm d=fu d:=by
 unfold cm ov;rw[if_pos (by simpa using h)]
theorem l8 {d:Ds7} {l:List Rw}(h:cm d=some l):ov d=true∧fu d=some l:=by
 unfold cm at h;split at h
 .rename_i hs
  exact⟨hs,h⟩
 .cases h
theorem nu {d:Ds7} {l:List Rw}(h:fu d=some l):ay (aa d.r).es (aa d.r).lv=true:=by
 unfold fu dx at h;split at h
 .cases h
 .split at h
  .rename_i hc
   exact (B0 d.r hc.1).1
  .cases h
theorem I0 {R:RA} {ss:List ByteArray} {gs:List (List Rw)}(hs:q9 ss) (hb:ca ss=some gs) (hk:iy R gs.flatten=true):im R gs.flatten:=by
 have hB:=(uz hb).1;refine⟨wl hB.pw,(hs gs hb).1,fun x hx=>?_,fun x hx=>?_⟩
 .obtain⟨g,hg,hxg⟩:=List.mem_flatten.1 hx
  have hz:=(oh.1 (hB.good g hg).1).2.1 x hxg;unfold sz1 at hz;rw[Bool.and_eq_true,Bool.and_eq_true,decide_eq_true_eq]at hz;exact⟨((hs gs hb).2 x hx).1,((hs gs hb).2 x hx).2,hz.1.1⟩
 .have:=List.all_eq_true.1 hk x hx
  simpa using this
def OpQ (w:World) (o:Option (List Rw)) (d:Ds7) (pb:Addr) (e:Ending) (w':World):Prop :=
 (match o with
  | some l=>∃ ve vp vr,e=.returned (.tuple #[ixV ve (aa d.r) d.r vp d.log d.syn vr,.nilIface])∧ac w' w.heap.size ve (aa d.r).es∧ak w' w.heap.size vp d.ss∧Rws w' w.heap.size vr l
  | none=>∃ ev,e=.returned (.tuple #[zIx,ev])∧Ik pb ev)∧Below w.heap.size w w'
theorem Zh {u:World} {p:Nat} {cs:Array Value} {t:TypeId}(hc:cs.size=8) (h:u.heap[p]? = some (.cells cs t)) (a b c d e f g k:Value):(set8 u p a b c d e f g k).heap[p]? = some (.cells #[a,b,c,d,e,f,g,k] t):=by
 obtain⟨x0,x1,x2,x3,x4,x5,x6,x7,rfl⟩:∃ x0 x1 x2 x3 x4 x5 x6 x7,cs=#[x0,x1,x2,x3,x4,x5,x6,x7]:=by
  obtain⟨l⟩:=cs;match l,hc with
  | [x0,x1,x2,x3,x4,x5,x6,x7],_=>exact⟨x0,x1,x2,x3,x4,x5,x6,x7,rfl⟩
 have e0:=heap_setCell_same u p 0 _ _ a h;have e1:=heap_setCell_same _ p 1 _ _ b e0;have e2:=heap_setCell_same _ p 2 _ _ c e1;have e3:=heap_setCell_same _ p 3 _ _ d e2;have e4:=heap_setCell_same _ p 4 _ _ e e3;have e5:=heap_setCell_same _ p 5 _ _ f e4;have e6:=heap_setCell_same _ p 6 _ _ g e5;have e7:=heap_setCell_same _ p 7 _ _ k e6;unfold set8;rw[e7];simp
theorem b09 {u:World} {lo p:Nat} {ve vp vr:Value} {es:List Ent} {ss:List ByteArray} {l:List Rw} {cs:Array Value}(h1:ac u lo ve es) (h2:ak u lo vp ss) (h3:Rws u lo vr l) (hp:u.heap[p]? = some (.cells cs 71)) (a1 a2 a3 a4 a5 a6 a7 a8:Value) :
  ac (set8 u p a1 a2 a3 a4 a5 a6 a7 a8) lo ve es∧ak (set8 u p a1 a2 a3 a4 a5 a6 a7 a8) lo vp ss∧Rws (set8 u p a1 a2 a3 a4 a5 a6 a7 a8) lo vr l :=
 have g:=wg u p a1 a2 a3 a4 a5 a6 a7 a8;⟨h1.boxT hp (by decide) (by decide) g,World.ownsRow.kept h2 g (iw h2 hp (by decide)),World.ownsRow.kept h3 g (iw h3 hp (by decide))⟩
theorem Nn {u:World} {lo:Nat} {ve:Value} {R:RA} {r:ByteArray} {vp:Value} {ss:List ByteArray} {log:ByteArray} {syn:Int} {vr:Value} {l:List Rw}(h1:ac u lo ve R.es) (h2:ak u lo vp ss) (h3:Rws u lo vr l) (a0:lo≤u.heap.size) :
  Ix7 (u.alloc (.cells #[ve,.bool R.sh,.int .i64 R.lv,.string r,vp,.string log,.int .i64 syn,vr] 71)) lo u.heap.size ve R r vp ss log syn vr l :=
 have b:=(Below.refl u.heap.size u).alloc bR (.cells #[ve,.bool R.sh,.int .i64 R.lv,.string r,vp,.string log,.int .i64 syn,vr] 71);⟨heap_alloc_new u _,h1.below b,h2.below b,h3.below b,a0⟩
def as2 (w:World) (R:RA) (ss:List ByteArray) (log:ByteArray) (e:Ending) (w':World):Prop :=
 ∃ ve vr,e=.returned (.tuple #[.agg #[ve,.bool R.sh,.int .i64 R.lv],vr,.bool (dx R ss log).isSome])∧ac w' w.heap.size ve R.es∧Rws w' w.heap.size vr ((dx R ss log).getD [])∧Below w.heap.size w w'
theorem jf.free {u:World} {p:Nat} {v:Value} {sh:Bool} {lv:Int}(h:jf u p v sh lv) (j:Nat):u.frozen? ⟨p,j,none⟩=false:=frozen_of_row _ _ j _ _ h
structure Hs7 (w u:World) (br:Nat) (r:ByteArray) (vp:Value) (log:ByteArray) (syn:Int) (ve:Value) (R:RA):Prop where
 disk:ba u w.heap.size r vp log syn
 ans:jf u (w.heap.size+1) (.slice none 0 0) false 0
 rul:jf u br ve R.sh R.lv
 ents:ac u w.heap.size ve R.es
 bel:Below w.heap.size w u
theorem Hs7.below {w u u':World} {br:Nat} {r:ByteArray} {vp:Value} {log:ByteArray} {syn:Int} {ve:Value} {R:RA}(h:Hs7 w u br r vp log syn ve R) (hb:Below u.heap.size u u'):Hs7 w u' br r vp log syn ve R :=
 ⟨h.disk.below hb,h.ans.below hb,h.rul.below hb,h.ents.below hb,h.bel.trans (hb.mono h.bel.size)⟩
def Gb (u:World) (p:Nat) (a b c:Value):World:=((u.setCell ⟨p,0,none⟩ a).setCell ⟨p,1,none⟩ b).setCell ⟨p,2,none⟩ c
theorem Ib (u:World) (p:Nat) (a b c:Value):u.grownBy (Gb u p a b c) (some p):=((dq u p 0 a).trans (dq _ p 1 b)).trans (dq _ p 2 c)
theorem Hs7.done {w u:World} {br:Nat} {r:ByteArray} {vp:Value} {log:ByteArray} {syn:Int} {ve:Value} {R:RA}(h:Hs7 w u br r vp log syn ve R){vr:Value} {l:List Rw}(hr:Rws u w.heap.size vr l) :
  ac (Gb u (w.heap.size+1) ve (.bool R.sh) (.int .i64 R.lv)) w.heap.size ve R.es∧Rws (Gb u (w.heap.size+1) ve (.bool R.sh) (.int .i64 R.lv)) w.heap.size vr l∧Below w.heap.size w (Gb u (w.heap.size+1) ve (.bool R.sh) (.int .i64 R.lv)) :=
 have g:=Ib u (w.heap.size+1) ve (.bool R.sh) (.int .i64 R.lv);⟨h.ents.boxT h.ans (by decide) (by decide) g,World.ownsRow.kept hr g (iw hr h.ans (by decide)),Below.grown h.bel g h.bel.size (fun j hj=>by have:=Option.some.inj hj;omega)⟩
theorem f6 {fn:Func} {p u u2:Tmp} {ty:TypeId}(h:fn.results=#[.cell p ty,.tmp u,.tmp u2]) (tmps:Array Value) (P:Program) (w:World) :
  (results fn tmps).run P w=((asAddr (tmps.getD p undef)).run P w).andThen fun a w₁=>((loadVar ty a).run P w₁).andThen fun v w₂=>.ok (.tuple #[v,tmps.getD u undef,tmps.getD u2 undef]) w₂:=by
 simp only[results,h];simp[Sem.run_bind,Result.andThen]
theorem Hs7.grown {w u u':World} {br B:Nat} {r:ByteArray} {vp:Value} {log:ByteArray} {syn:Int} {ve:Value} {R:RA} {v:Value} {l:List Rw}(h:Hs7 w u br r vp log syn ve R) (hr:Rws u B v l) (hB:w.heap.size≤B) (g:u.grownBy u' v.ownBlock):Hs7 w u' br r vp log syn ve R:=by
 rcases hr.2 with ⟨rfl,_⟩|⟨gb,cap,cur,rfl,a0,hg,_⟩
 .exact h.below (Below.grown bX g bR (fun j hj=>by cases hj))
 .have ne:∀ (p:Nat) (cs:Array Value) (t:TypeId),37≠t→u.heap[p]? = some (.cells cs t (0,0))→u'.heap[p]? = some (.cells cs t (0,0)):=fun p cs t ht hp=>by
   refine (g.block p (Array.getElem?_eq_some_iff.1 hp).1 (fun e=>?_)).trans hp;have:p=gb:=Option.some.inj e;subst this;rw[hg]at hp;injection hp with e1;injection e1 with _ e2 _;exact ht e2
  exact⟨ne _ _ _ (by decide) h.disk,ne _ _ _ (by decide) h.ans,ne _ _ _ (by decide) h.rul,h.ents.boxT hg (by decide) (by decide) g,Below.grown h.bel g h.bel.size (fun j hj=>by have:gb=j:=Option.some.inj hj;omega)⟩
theorem ot (u:World) (B:Nat):Rws u B (.slice none 0 0) []:=World.ownsRow_nil _ _ _ _
theorem Uk (gs:List (List Rw)) (k:Nat):(gs.take k).flatten.length≤gs.flatten.length:=by
 have h:gs.flatten=(gs.take k).flatten++(gs.drop k).flatten:=by rw[<- List.flatten_append,List.take_append_drop]
 rw[h,List.length_append];omega
def Xq (w w2:World) (br:Nat) (r:ByteArray) (vd:Value) (log:ByteArray) (syn:Int) (ve:Value) (R:RA) (f:Nat→List Rw) (m:Nat) (v i:Value) (wr:World):Prop :=
 ∃ k:Nat,k≤m∧i=.int .i64 (k:Int)∧Rws wr w2.heap.size v (f k)∧Hs7 w wr br r vd log syn ve R∧Below w2.heap.size w2 wr∧∀ x ∈ f k,bh R x.text=x.key
def as1 (w:World) (br:Nat) (r:ByteArray) (vd:Value) (log:ByteArray) (syn:Int) (ve:Value) (R:RA) (ANS:Option (List Rw)) (v sv:Value) (wr:World):Prop :=
 ∃ (l:List Rw) (s:ByteArray),sv=.string s∧Rws wr w.heap.size v l∧Hs7 w wr br r vd log syn ve R∧im R l∧s.size≤6000∧pj R l s=ANS
theorem Zo {R:RA} {l:List Rw}(h:∀ x ∈ l,bh R x.text=x.key):iy R l=true:=by
 unfold iy;rw[List.all_eq_true];exact fun x hx=>decide_eq_true (h x hx)
theorem Zp {R:RA} {l:List Rw} {x:Rw}(h:x ∈ l) (hk:bh R x.text≠x.key):iy R l=false:=by
 unfold iy;rw[List.all_eq_false];exact⟨x,h,by simpa using hk⟩
theorem Uj {gs:List (List Rw)} {k:Nat} {g:List Rw}(h:gs[k]? = some g):(gs.take k).flatten++g=(gs.take (k+1)).flatten:=by
 rw[List.take_add_one,h];simp
theorem Q9 {ss:List ByteArray} {gs:List (List Rw)}(hb:ca ss=some gs):∀ x ∈ gs.flatten,x.key.size≤200:=fun x hx=>by
 have hB:=(uz hb).1;obtain⟨g,hg,a0⟩:=List.mem_flatten.1 hx;have hz:=(oh.1 (hB.good g hg).1).2.1 x a0;unfold sz1 at hz;rw[Bool.and_eq_true,Bool.and_eq_true,decide_eq_true_eq]at hz;exact hz.1.1
theorem Vx {w:World} {B:Nat} {vd:Value} {ss:List ByteArray}(r log:ByteArray) (syn:Int) (hr:r.size≤1048576) (cy:log.size≤1048576) (hS:ak w B vd ss) (hz:∀ s ∈ ss,s.size≤1048576) (hl:ss.length≤1048576) (an:q9 ss) :
  Calls prog 32 #[.agg #[.string r,vd,.string log,.int .i64 syn]] w fun e w'=>as2 w (aa r) ss log e w':=by
 obtain⟨ad,cd,cn,_⟩:=js hS;subst cn;obtain⟨W0,hW⟩:∃ W0,W0=(w.alloc (.cells #[.string r,.slice ad ss.length cd,.string log,.int .i64 syn] 25)).alloc (.cells #[.slice none 0 0,.bool false,.int .i64 0] 56):=⟨_,rfl⟩
 have bG:Below w.heap.size w W0:=by rw[hW];exact (bY _).alloc (by simp) _
 have cF:W0.heap.size=w.heap.size+2:=by rw[hW];simp
 have bk:ba W0 w.heap.size r (.slice ad ss.length cd) log syn:=by
  show _=_
  rw[hW,Below.heap_alloc _ _ _ (by simp)];exact heap_alloc_new w _
 have bF:jf W0 (w.heap.size+1) (.slice none 0 0) false 0:=by
  have h:=heap_alloc_new (w.alloc (.cells #[.string r,.slice ad ss.length cd,.string log,.int .i64 syn] 25)) (.cells #[.slice none 0 0,.bool false,.int .i64 0] 56);rw[World.size_alloc]at h;show _=_
  rw[hW];exact h
 have aM:Hid (∀ u,Below w.heap.size w u→ak u B (.slice ad ss.length cd) ss):=fun u hu=>hS.below hu
 obtain⟨R,hR⟩:∃ R,R=aa r:=⟨_,rfl⟩
 obtain⟨cde,al⟩:∃ c,c=R.code:=⟨_,rfl⟩
 have RD:Calls prog 23 #[.string r] W0 fun e w'=>∃ vE,e=.returned (.tuple #[.agg #[vE,.bool R.sh,.int .i64 R.lv],.int .i64 cde])∧ac w' W0.heap.size vE R.es∧Below W0.heap.size W0 w':=by rw[al,hR];exact Fy r W0 (by omega)
 rw[<- hR];have aV:Hid (cde=0→ay R.es R.lv=true):=fun h=>by rw[al,hR]at h;rw[hR];exact (B0 r h).1
 have aD:Hid (cde=R.code):=al;have HZ:Hid (∀ s ∈ ss,s.size≤1048576):=hz;have aG:Hid (q9 ss):=an;have bc:Hid (ba W0 w.heap.size r (.slice ad ss.length cd) log syn):=bk;have br:Hid (jf W0 (w.heap.size+1) (.slice none 0 0) false 0):=bF;have bb:Hid (Below w.heap.size w W0):=bG;have HW:Hid (W0=(w.alloc (.cells #[.string r,.slice ad ss.length cd,.string log,.int .i64 syn] 25)).alloc (.cells #[.slice none 0 0,.bool false,.int .i64 0] 56)):=hW;obtain⟨bm,d0,d1,d2,d3,df⟩:=bk.facts;clear hS hz an bk bF bG hW hR al;go_enter func32,ntmps32;go_wp2_with fail;rw[<- HW.out];clear HW;go_wp2_with fail;refine RD.mono ?_;rintro e w1 ⟨v1,rfl,e1,b1⟩;obtain⟨va,vc,cl⟩:=cu e1;subst cl;obtain⟨W1,b4⟩:∃ W1,W1=w1.alloc (.cells #[.slice va R.es.length vc,.bool R.sh,.int .i64 R.lv] 56):=⟨_,rfl⟩
 have bA:Below w1.heap.size w1 W1:=by rw[b4];exact bY _
 have aZ:Below W0.heap.size W0 W1:=b1.trans (bA.mono b1.size);have cq:w.heap.size+1<w1.heap.size:=by have:=b1.size;omega
 have b0:Hs7 w W1 w1.heap.size r (.slice ad ss.length cd) log syn (.slice va R.es.length vc) R:=⟨bc.out.below aZ,br.out.below aZ,by show _=_;rw[b4];exact heap_alloc_new w1 _,ac.low (e1.below bA) (by omega),bb.out.trans (aZ.mono bb.out.size)⟩;have OB:=Rs (aM.out W1 b0.bel) HZ.out hl;obtain⟨bm,d0,d1,d2,d3,df⟩:=(bc.out.below b1).facts;have aR:Hid (Hs7 w W1 w1.heap.size r (.slice ad ss.length cd) log syn (.slice va R.es.length vc) R):=b0;have bD:Hid (W1=w1.alloc (.cells #[.slice va R.es.length vc,.bool R.sh,.int .i64 R.lv] 56)):=b4;have cp:w.heap.size≤W1.heap.size:=b0.bel.size;clear RD e1 b1 bA aZ b0 b4;go_wp2_with fail;rw[<- bD.out];refine OB.mono ?_;rintro e w2 ⟨v2,rfl,hN,b2⟩;have a4:Hid (Hs7 w w2 w1.heap.size r (.slice ad ss.length cd) log syn (.slice va R.es.length vc) R):=aR.out.below b2;obtain⟨bm,d0,d1,d2,d3,df⟩:=a4.out.disk.facts
 clear OB b2 aR bD bc br bb
 cases hbk:ca ss with
 | none =>
  have HN:Hid (dx R ss log=none):=Ex hbk;have c8:((none:Option (List (List Rw))).isSome)=false:=rfl;clear hN hbk aM HZ aG aV;by_cases h0:cde=0
  .subst h0
   clear aD;obtain⟨ab,ar,au,av⟩:=a4.out.ans.facts;have a9:=a4.out.ans.free;obtain⟨ae,ao,ap,aq⟩:=a4.out.rul.facts;obtain⟨D1,D2,D3⟩:=a4.out.done (ot _ _);have a5:Hid (ac _ _ _ _):=D1;have a6:Hid (Rws _ _ _ _):=D2;have a7:Hid _:=D3;clear D1 D2 D3;go_wp2;refine bodyPost_ret (v:=.tuple #[.agg #[.slice va R.es.length vc,.bool R.sh,.int .i64 R.lv],.slice none 0 0,.bool false]) ?_ rfl ⟨.slice va R.es.length vc,.slice none 0 0,by rw[HN.out];rfl,a5.out,by rw[HN.out];exact a6.out,a7.out⟩;rw[f6 rfl];go_simp
  .have c6:(cde != 0)=true:=by simpa using h0
   clear aD h0;obtain⟨ab,ar,au,av⟩:=a4.out.ans.facts;have a9:=a4.out.ans.free;obtain⟨ae,ao,ap,aq⟩:=a4.out.rul.facts;obtain⟨D1,D2,D3⟩:=a4.out.done (ot _ _);have a5:Hid (ac _ _ _ _):=D1;have a6:Hid (Rws _ _ _ _):=D2;have a7:Hid _:=D3;clear D1 D2 D3;go_wp2;refine bodyPost_ret (v:=.tuple #[.agg #[.slice va R.es.length vc,.bool R.sh,.int .i64 R.lv],.slice none 0 0,.bool false]) ?_ rfl ⟨.slice va R.es.length vc,.slice none 0 0,by rw[HN.out];rfl,a5.out,by rw[HN.out];exact a6.out,a7.out⟩;rw[f6 rfl];go_simp
 | some gs =>
  have c8:((some gs:Option (List (List Rw))).isSome)=true:=rfl;obtain⟨vs,N2⟩:=hN gs hbk;have aQ:Hid (ca ss=some gs):=hbk;by_cases h0:¬ cde=0
  .have c6:(cde != 0)=true:=by simpa using h0
   have HN:Hid (dx R ss log=none):=Ey (fun c=>h0 (aD.out.trans c));clear aD h0 N2 hN aM HZ aG aV hbk;obtain⟨ab,ar,au,av⟩:=a4.out.ans.facts;have a9:=a4.out.ans.free;obtain⟨ae,ao,ap,aq⟩:=a4.out.rul.facts;obtain⟨D1,D2,D3⟩:=a4.out.done (ot _ _);have a5:Hid (ac _ _ _ _):=D1;have a6:Hid (Rws _ _ _ _):=D2;have a7:Hid _:=D3;clear D1 D2 D3;go_wp2;refine bodyPost_ret (v:=.tuple #[.agg #[.slice va R.es.length vc,.bool R.sh,.int .i64 R.lv],.slice none 0 0,.bool false]) ?_ rfl ⟨.slice va R.es.length vc,.slice none 0 0,by rw[HN.out];rfl,a5.out,by rw[HN.out];exact a6.out,a7.out⟩;rw[f6 rfl];go_simp
  replace h0:cde=0:=Decidable.not_not.1 h0;have bx:Hid (R.code=0):=aD.out.symm.trans h0;have bJ:=aV.out h0;clear aD aV;subst h0;by_cases h6:¬ log.size≤6000
  .have bn:(6000:Int)<(log.size:Int):=by omega
   have HN:Hid (dx R ss log=none):=F4 h6;clear h6 N2 hN aM HZ aG hbk;obtain⟨ab,ar,au,av⟩:=a4.out.ans.facts;have a9:=a4.out.ans.free;obtain⟨ae,ao,ap,aq⟩:=a4.out.rul.facts;obtain⟨D1,D2,D3⟩:=a4.out.done (ot _ _);have a5:Hid (ac _ _ _ _):=D1;have a6:Hid (Rws _ _ _ _):=D2;have a7:Hid _:=D3;clear D1 D2 D3;go_wp2;refine bodyPost_ret (v:=.tuple #[.agg #[.slice va R.es.length vc,.bool R.sh,.int .i64 R.lv],.slice none 0 0,.bool false]) ?_ rfl ⟨.slice va R.es.length vc,.slice none 0 0,by rw[HN.out];rfl,a5.out,by rw[HN.out];exact a6.out,a7.out⟩;rw[f6 rfl];go_simp
  replace h6:log.size≤6000:=Decidable.not_not.1 h6;have bn:¬ (6000:Int)<(log.size:Int):=by omega
  have aX:Hid (gs.flatten.length≤60∧∀ x ∈ gs.flatten,x.text.size≤60∧x.val.size≤60):=aG.out gs hbk;have bv:Hid (∀ x ∈ gs.flatten,x.key.size≤200):=Q9 hbk;obtain⟨cv,aN⟩:=Md hbk;have bt:Hid (∀ l ∈ gs,l.length≤60):=aN;obtain⟨a2,c2,cm,fm⟩:=N2.form;subst cm;have bw:Hid (bj w2 W1.heap.size w2.heap.size (.slice a2 gs.length c2) gs vs):=N2;have bs:Hid _:=fm;clear hN N2 fm hbk aN aM HZ;go_wp2_with fail;go_loopw [9,48] (fun v i wr=>Xq w w2 w1.heap.size r (.slice ad ss.length cd) log syn (.slice va R.es.length vc) R (fun k=>(gs.take k).flatten) gs.length v i wr) (fun _ i _=>gs.length-(intOf i).toNat)
  case atStart=>exact⟨0,Nat.zero_le _,rfl,World.ownsRow_nil _ _ _ _,a4.out,bX,fun x hx=>by simp at hx⟩
  case round =>
   obtain⟨k,hk,rfl,hR,hH,hb,am⟩:=hrel;by_cases ci:k<gs.length
   .obtain⟨l,hl'⟩:∃ l,gs[k]? = some l:=by exact⟨_,List.getElem?_eq_getElem ci⟩
    obtain⟨x,hx,hI,_⟩:=bw.out.ins k l hl';obtain⟨gb,rfl,_,ce,cb,_⟩:=bs.out k x hx;have c5:wr.cell? ⟨gb,k,none⟩=some x:=(hb.cell (p:=⟨gb,k,none⟩) ce).trans cb;have cf:=ag c5;have cj:(k:Int)<(gs.length:Int):=by omega
    have ch:=bt.out l (List.mem_of_getElem? hl');obtain⟨ax,cx,rfl⟩:=bz hI;have c3:Hid (∀ u,Below w2.heap.size w2 u→dd u ax l):=fun u hu=>ew (hI.below hu)
    have bC:Hid ((gs.take k).flatten++l=(gs.take (k+1)).flatten):=Uj hl';have bW:Hid (∀ x ∈ l,x ∈ gs.flatten):=fun x hx=>List.mem_flatten.2 ⟨l,List.mem_of_getElem? hl',hx⟩
    have c7:(gs.take k).flatten.length≤60:=Nat.le_trans (Uk gs k) aX.out.1;obtain⟨F0,bO⟩:∃ F0,Hid ((gs.take k).flatten=F0):=⟨_,rfl⟩
    have af:Rws wr w2.heap.size u9 ((gs.take k).flatten):=hR;have a3:∀ x ∈ (gs.take k).flatten,bh R x.text=x.key:=am
    rw[bO.out]at af c7 bC a3;have HR:Hid (Rws wr w2.heap.size u9 F0):=af;have HB:Hid (Below w2.heap.size w2 wr):=hb;have ai:Hid (Hs7 w wr w1.heap.size r (.slice ad ss.length cd) log syn (.slice va R.es.length vc) R):=hH;have bV:Hid (∀ x ∈ F0,bh R x.text=x.key):=a3;obtain⟨w6,rfl⟩:∃ w6,w6=wr:=⟨_,rfl⟩
    clear hR af hb hI hx hl' cb am a3 hH;go_wp2_with fail;go_loopw [9,54] (fun v i wr=>Xq w w2 w1.heap.size r (.slice ad ss.length cd) log syn (.slice va R.es.length vc) R (fun k=>F0++l.take k) l.length v i wr) (fun _ i _=>l.length-(intOf i).toNat)
    case atStart=>exact⟨0,Nat.zero_le _,rfl,by simpa using HR.out,ai.out,HB.out,by simpa using bV.out⟩
    case round =>
     obtain⟨j,hj,rfl,hR,hH,hb,am⟩:=hrel;by_cases cg:j<l.length
     .obtain⟨x,hx⟩:∃ x,l[j]? = some x:=by exact⟨_,List.getElem?_eq_getElem cg⟩
      rcases c3.out wr hb with h0|⟨b,o,rfl,hE⟩
      .rw[h0]at hx;simp at hx
      obtain⟨a0,a1,a2⟩:=hE j x hx;have cs:=ag a0;have cw:(j:Int)<(l.length:Int):=by omega
      have bp:=bW.out x (List.mem_of_getElem? hx);obtain⟨bK,cI⟩:=aX.out.2 x bp;have cr:¬ (60:Int)<(x.val.size:Int):=by omega
      have aO:=bv.out x bp;have b5:Below wr.heap.size wr (wr.alloc (.cells #[.string x.key,.string x.text,.string x.val] 37)):=bY _;have bl:=hH.below b5;have LK:=Cj x.text (by omega) bl.ents bJ;rw[if_pos bK]at LK;obtain⟨aJ,u0,u1,u2⟩:=hH.rul.facts;have aH:Hid (di (wr.alloc (.cells #[.string x.key,.string x.text,.string x.val] 37)) wr.heap.size x):=ky wr x;have aY:Hid (l[j]? = some x):=hx;obtain⟨F1,bd⟩:∃ F1,Hid (F0++l.take j=F1):=⟨_,rfl⟩
      have af:Rws wr w2.heap.size u9 F1:=by rw[<- bd.out];exact hR
      have bI:F1.length≤200:=by rw[<- bd.out,List.length_append,List.length_take];omega
      obtain⟨ra,rc,hv⟩:=bz af;subst hv;have aT:Hid (Rws (wr.alloc (.cells #[.string x.key,.string x.text,.string x.val] 37)) w2.heap.size (.slice ra F1.length rc) F1):=af.below b5;have aE:Hid (Hs7 w (wr.alloc (.cells #[.string x.key,.string x.text,.string x.val] 37)) w1.heap.size r (.slice ad ss.length cd) log syn (.slice va R.es.length vc) R):=bl;have az:Hid (Below w2.heap.size w2 (wr.alloc (.cells #[.string x.key,.string x.text,.string x.val] 37))):=hb.trans (b5.mono hb.size);have be:Hid (∀ x ∈ F0++l.take j,bh R x.text=x.key):=am;clear hR af hb hE hx hH bl b5 am;by_cases aB:bh R x.text=x.key
      .have ah:gn R x.text=true:=by unfold gn;rw[aB,decide_eq_true bK,decide_eq_true aO];rfl
       rw[ah,aB]at LK;have bU:Hid (∀ y ∈ F0++l.take (j+1),bh R y.text=y.key):=fun y hy=>by
        rw[List.take_add_one,aY.out,<- List.append_assoc]at hy;rcases List.mem_append.1 hy with hy|hy
        .exact be.out y hy
        .obtain rfl:y=x:=by simpa using hy
         exact aB
       have c0:Hid (F0++l.take (j+1)=F1++[x]):=by show _=_;rw[<- bd.out,List.take_add_one,aY.out,List.append_assoc];rfl
       clear aB ah be aY;go_wp2_with fail;refine LK.mono ?_;rintro e w7 ⟨rfl,b7⟩;have aj:=aH.out.below b7;obtain⟨e0,e1,e2⟩:=aj.cells;have bH:=aj.lt;have bA:=(Below.refl w7.heap.size w7).alloc bR (.cells #[.string x.key,.string x.text,.string x.val] 37);have bE:Hid (SlV (w7.alloc (.cells #[.string x.key,.string x.text,.string x.val] 37)) (.slice (some ⟨w7.heap.size,0,none⟩) 1 1) [x]):=(gg w7 _ w7.heap.size x rfl bR).slV;have aU:Hid (Rws (w7.alloc (.cells #[.string x.key,.string x.text,.string x.val] 37)) w2.heap.size (.slice ra F1.length rc) F1):=(aT.out.below b7).below bA;have bu:Hid (Hs7 w (w7.alloc (.cells #[.string x.key,.string x.text,.string x.val] 37)) w1.heap.size r (.slice ad ss.length cd) log syn (.slice va R.es.length vc) R):=(aE.out.below b7).below bA
       have aP:Hid (Below w2.heap.size w2 (w7.alloc (.cells #[.string x.key,.string x.text,.string x.val] 37))):=(az.out.trans (b7.mono az.out.size)).trans (bA.mono (az.out.trans (b7.mono az.out.size)).size);clear LK b7 bA aj aH aT aE az u0 u1 u2 aJ a0 a1 a2;go_wp2_with (at_builtin;refine ef rfl _ _ rfl w2.heap.size (.slice ra F1.length rc) (.slice (some ⟨w7.heap.size,0,none⟩) 1 1) F1 [x] rfl rfl aU.out bE.out (by simp;omega) aP.out.size ?_)
       intro v8 w8 r8 g8;have bP:Hid (Hs7 w w8 w1.heap.size r (.slice ad ss.length cd) log syn (.slice va R.es.length vc) R):=bu.out.grown aU.out a4.out.bel.size g8;have bN:Hid (Below w2.heap.size w2 w8):=Below.grown aP.out g8 aP.out.size (fun j hj=>(World.ownsRow.lt aU.out j hj).1);have bi:Hid (Rws w8 w2.heap.size v8 (F1++[x])):=r8;clear r8 g8 aU bu aP bE;go_wp2;exact⟨⟨j+1,by omega,by go_num,(by show Rws _ _ _ (F0++l.take (j+1));rw[c0.out];exact bi.out),bP.out,bN.out,bU.out⟩,by simp[intOf];omega⟩
      .have HN:Hid (dx R ss log=none):=Ez aQ.out (Zp bp aB)
       have cE:=xp aB;clear aB be aY;generalize bh R x.text=key at *
       cases ah:gn R x.text
       .rw[ah]at LK
        clear ah;go_wp2_with fail;refine LK.mono ?_;rintro e w7 ⟨rfl,b7⟩;have aj:=aH.out.below b7;obtain⟨e0,e1,e2⟩:=aj.cells;have bH:=aj.lt;have a8:Hid (Hs7 w w7 w1.heap.size r (.slice ad ss.length cd) log syn (.slice va R.es.length vc) R):=aE.out.below b7;clear LK b7 aj aH aT aE az u0 u1 u2 aJ a0 a1 a2;obtain⟨ab,ar,au,av⟩:=a8.out.ans.facts;have a9:=a8.out.ans.free;obtain⟨ae,ao,ap,aq⟩:=a8.out.rul.facts;obtain⟨D1,D2,D3⟩:=a8.out.done (ot _ _);have a5:Hid (ac _ _ _ _):=D1;have a6:Hid (Rws _ _ _ _):=D2;have a7:Hid _:=D3;clear D1 D2 D3;go_wp2;refine bodyPost_ret (v:=.tuple #[.agg #[.slice va R.es.length vc,.bool R.sh,.int .i64 R.lv],.slice none 0 0,.bool false]) ?_ rfl ⟨.slice va R.es.length vc,.slice none 0 0,by rw[HN.out];rfl,a5.out,by rw[HN.out];exact a6.out,a7.out⟩;rw[f6 rfl];go_simp
       .rw[ah]at LK
        clear ah;go_wp2_with fail;refine LK.mono ?_;rintro e w7 ⟨rfl,b7⟩;have aj:=aH.out.below b7;obtain⟨e0,e1,e2⟩:=aj.cells;have bH:=aj.lt;have a8:Hid (Hs7 w w7 w1.heap.size r (.slice ad ss.length cd) log syn (.slice va R.es.length vc) R):=aE.out.below b7;clear LK b7 aj aH aT aE az u0 u1 u2 aJ a0 a1 a2;obtain⟨ab,ar,au,av⟩:=a8.out.ans.facts;have a9:=a8.out.ans.free;obtain⟨ae,ao,ap,aq⟩:=a8.out.rul.facts;obtain⟨D1,D2,D3⟩:=a8.out.done (ot _ _);have a5:Hid (ac _ _ _ _):=D1;have a6:Hid (Rws _ _ _ _):=D2;have a7:Hid _:=D3;clear D1 D2 D3;go_wp2;refine bodyPost_ret (v:=.tuple #[.agg #[.slice va R.es.length vc,.bool R.sh,.int .i64 R.lv],.slice none 0 0,.bool false]) ?_ rfl ⟨.slice va R.es.length vc,.slice none 0 0,by rw[HN.out];rfl,a5.out,by rw[HN.out];exact a6.out,a7.out⟩;rw[f6 rfl];go_simp
     .obtain rfl:j=l.length:=by omega
      have af:Rws wr w2.heap.size _ (F0++l.take l.length):=hR;have a3:∀ x ∈ F0++l.take l.length,bh R x.text=x.key:=am
      rw[List.take_length,bC.out]at af a3;have bf:Hid (Rws _ _ _ _):=af;have bM:Hid (Below w2.heap.size w2 wr):=hb;have aR:Hid (Hs7 w wr w1.heap.size r (.slice ad ss.length cd) log syn (.slice va R.es.length vc) R):=hH;have bS:Hid (∀ x ∈ (gs.take (k+1)).flatten,bh R x.text=x.key):=a3;clear hR af hb hH am a3;go_wp2;exact⟨⟨k+1,by omega,by go_num,bf.out,aR.out,bM.out,bS.out⟩,by simp[intOf];omega⟩
   .obtain rfl:k=gs.length:=by omega
    have af:Rws wr w2.heap.size _ ((gs.take gs.length).flatten):=hR;have a3:∀ x ∈ (gs.take gs.length).flatten,bh R x.text=x.key:=am
    rw[List.take_length]at af a3;have aC:=Zo a3;have c1:Hid (im R gs.flatten):=I0 aG.out aQ.out aC;have c9:=aX.out.1;obtain⟨aw,aA⟩:∃ aw,aw=dx R ss log:=⟨_,rfl⟩
    have b6:Hid (aw=dx R ss log):=aA;have c4:Hid (pj R gs.flatten log=aw):=by show _=_;rw[aA,Kp aQ.out bx.out aC h6];rfl
    generalize gs.flatten=F at *;obtain⟨ra,rc,hv⟩:=bz af;subst hv;have cc:¬ (60:Int)<(F.length:Int):=by omega
    have bf:Hid (Rws _ w.heap.size (.slice ra F.length rc) F):=cz af a4.out.bel.size;have bQ:Hid (Hs7 w wr w1.heap.size r (.slice ad ss.length cd) log syn (.slice va R.es.length vc) R):=hH;obtain⟨bm,d0,d1,d2,d3,df⟩:=hH.disk.facts;obtain⟨w6,rfl⟩:∃ w6,w6=wr:=⟨_,rfl⟩
    clear hR af hb hH am a3 aC aA aX bv bt bw bs aG aQ bx;go_wp2_with fail;go_loopw [9,16] (fun v sv wr=>as1 w w1.heap.size r (.slice ad ss.length cd) log syn (.slice va R.es.length vc) R aw v sv wr) (fun _ sv _=>D9 sv)
    case atStart=>exact⟨F,log,rfl,bf.out,bQ.out,c1.out,h6,c4.out⟩
    case round =>
     obtain⟨l,s,rfl,hR,hH,b3,cG,hA⟩:=hrel;obtain⟨ra,rc,hv⟩:=bz hR;subst hv;by_cases hp:0<s.size
     .have SR:=ah5 s wr hp (by omega)
      have ck:(0:Int)<(s.size:Int):=by omega
      cases hrc:io s with
      | none =>
       have HN:Hid (dx R ss log=none):=by show _=_;rw[<- b6.out,<- hA];exact a31 (by omega) hrc
       rw[hrc]at SR;have aI:Calls prog 48 #[.string s] wr fun e w'=>e=.returned (.tuple #[.agg #[.int .i64 0,.string ⟨#[]⟩,.string ⟨#[]⟩],.int .i64 0])∧Below wr.heap.size wr w':=SR
       have ai:Hid (Hs7 w wr w1.heap.size r (.slice ad ss.length cd) log syn (.slice va R.es.length vc) R):=hH;clear SR hH hR b3 hA hrc;go_wp2_with fail;refine aI.mono ?_;rintro e w7 ⟨rfl,b7⟩;have a8:Hid (Hs7 w w7 w1.heap.size r (.slice ad ss.length cd) log syn (.slice va R.es.length vc) R):=ai.out.below b7;clear aI b7 ai;obtain⟨ab,ar,au,av⟩:=a8.out.ans.facts;have a9:=a8.out.ans.free;obtain⟨ae,ao,ap,aq⟩:=a8.out.rul.facts;obtain⟨D1,D2,D3⟩:=a8.out.done (ot _ _);have bZ:=(Below.refl (Gb w7 (w.heap.size+1) (.slice va R.es.length vc) (.bool R.sh) (.int .i64 R.lv)).heap.size (Gb w7 (w.heap.size+1) (.slice va R.es.length vc) (.bool R.sh) (.int .i64 R.lv))).alloc bR (.cells #[.int .i64 0,.string ⟨#[]⟩,.string ⟨#[]⟩] 27);replace D1:=D1.below bZ;replace D2:=D2.below bZ;replace D3:=D3.trans (bZ.mono D3.size);have a5:Hid (ac _ _ _ _):=D1
       have a6:Hid (Rws _ _ _ _):=D2;have a7:Hid _:=D3;clear D1 D2 D3;go_wp2;refine bodyPost_ret (v:=.tuple #[.agg #[.slice va R.es.length vc,.bool R.sh,.int .i64 R.lv],.slice none 0 0,.bool false]) ?_ rfl ⟨.slice va R.es.length vc,.slice none 0 0,by rw[HN.out];rfl,a5.out,by rw[HN.out];exact a6.out,a7.out⟩;rw[f6 rfl];go_simp
      | some p =>
       obtain⟨o,n⟩:=p;obtain⟨bo,cH,co⟩:=Wm hrc;obtain⟨cA,cB⟩:=wm bo;rw[hrc]at SR;have aI:Calls prog 48 #[.string s] wr fun e w'=>e=.returned (.tuple #[.agg #[.int .i64 (kn7 o),.string o.text,.string o.val],.int .i64 (n:Int)])∧Below wr.heap.size wr w':=SR
       have cC:((n:Int) == 0)=false:=by simp;omega
       have cD:(n:Int)≤(s.size:Int):=by omega
       have ai:Hid (Hs7 w wr w1.heap.size r (.slice ad ss.length cd) log syn (.slice va R.es.length vc) R):=hH;have bB:Hid (Rws wr w.heap.size (.slice ra l.length rc) l):=hR;have aL:Hid (im R l):=b3;have HA:Hid (pj R l s=aw):=hA;have aW:Hid (bq s=some (o,n)):=bo;have ct:=Dec.size_extract s n;obtain⟨kd,aC⟩:∃ kd,kd=kn7 o:=⟨_,rfl⟩
       have bT:Hid (kd=kn7 o):=aC;rw[<- aC]at aI;clear SR hH hR b3 hA hrc bo aC;go_wp2_with fail;refine aI.mono ?_;rintro e w7 ⟨rfl,b7⟩;have a8:Hid (Hs7 w w7 w1.heap.size r (.slice ad ss.length cd) log syn (.slice va R.es.length vc) R):=ai.out.below b7;have b9:Below w7.heap.size w7 (w7.alloc (.cells #[.int .i64 kd,.string o.text,.string o.val] 27)):=bY _;have aS:Hid (Hs7 w (w7.alloc (.cells #[.int .i64 kd,.string o.text,.string o.val] 27)) w1.heap.size r (.slice ad ss.length cd) log syn (.slice va R.es.length vc) R):=a8.out.below b9;have AP:=Gn o (by omega) co aS.out.ents bJ ((bB.out.below b7).below b9) aL.out.rise aL.out.len;rw[<- bT.out]at AP;obtain⟨aJ,u0,u1,u2⟩:=a8.out.rul.facts;clear aI b7 b9 ai bB;by_cases hc:apC R l o=0
       .rw[decide_eq_true hc]at AP
        have bL:Hid (pj R (apR R l o) (s.extract n s.size)=aw):=by show _=_;rw[<- HA.out,a32 aW.out hc]
        have bg:Hid (im R (apR R l o)):=aL.out.step hc;have aK:Hid (apC R l o=0):=hc;clear hc HA aW aL;go_wp2_with fail;refine AP.mono ?_;rintro e w8 ⟨v8,rfl,r8,b8⟩;have bi:Hid (Rws w8 w.heap.size v8 (apR R l o)):=cz (r8 aK.out) aS.out.bel.size;have aF:Hid (Hs7 w w8 w1.heap.size r (.slice ad ss.length cd) log syn (.slice va R.es.length vc) R):=aS.out.below b8;clear AP r8 b8 u0 u1 u2 aJ aK;go_wp2;exact⟨⟨apR R l o,s.extract n s.size,rfl,bi.out,aF.out,bg.out,by omega,bL.out⟩,by simp only[D9];omega⟩
       .have HN:Hid (dx R ss log=none):=by show _=_;rw[<- b6.out,<- HA.out];exact Ot aW.out hc
        rw[decide_eq_false hc]at AP;clear hc HA aW aL;go_wp2_with fail;refine AP.mono ?_;rintro e w8 ⟨v8,rfl,r8,b8⟩;have aF:Hid (Hs7 w w8 w1.heap.size r (.slice ad ss.length cd) log syn (.slice va R.es.length vc) R):=aS.out.below b8;clear AP r8 b8 u0 u1 u2 aJ;obtain⟨ab,ar,au,av⟩:=aF.out.ans.facts;have a9:=aF.out.ans.free;obtain⟨ae,ao,ap,aq⟩:=aF.out.rul.facts;obtain⟨D1,D2,D3⟩:=aF.out.done (ot _ _);have a5:Hid (ac _ _ _ _):=D1;have a6:Hid (Rws _ _ _ _):=D2;have a7:Hid _:=D3;clear D1 D2 D3;go_wp2;refine bodyPost_ret (v:=.tuple #[.agg #[.slice va R.es.length vc,.bool R.sh,.int .i64 R.lv],.slice none 0 0,.bool false]) ?_ rfl ⟨.slice va R.es.length vc,.slice none 0 0,by rw[HN.out];rfl,a5.out,by rw[HN.out];exact a6.out,a7.out⟩;rw[f6 rfl];go_simp
     .have ck:¬ (0:Int)<(s.size:Int):=by omega
      have HN:Hid (dx R ss log=some l):=by show _=_;rw[<- b6.out,<- hA];exact ag5 (by omega)
      have ai:Hid (Hs7 w wr w1.heap.size r (.slice ad ss.length cd) log syn (.slice va R.es.length vc) R):=hH;obtain⟨ab,ar,au,av⟩:=ai.out.ans.facts;have a9:=ai.out.ans.free;obtain⟨ae,ao,ap,aq⟩:=ai.out.rul.facts;obtain⟨D1,D2,D3⟩:=ai.out.done hR;have a5:Hid (ac _ _ _ _):=D1;have a6:Hid (Rws _ _ _ _):=D2;have a7:Hid _:=D3;clear D1 D2 D3 hR hH b3 hA;go_wp2;refine bodyPost_ret (v:=.tuple #[.agg #[.slice va R.es.length vc,.bool R.sh,.int .i64 R.lv],.slice ra l.length rc,.bool true]) ?_ rfl ⟨.slice va R.es.length vc,.slice ra l.length rc,by rw[HN.out];rfl,a5.out,by rw[HN.out];exact a6.out,a7.out⟩;rw[f6 rfl];go_simp
theorem ah7 (l:List ByteArray):∀ u ∈ l.map Value.string,u.oneCell'=true:=fun u hu=>by
 obtain⟨x,_,rfl⟩:=List.mem_map.1 hu;rfl
theorem Jb {w:World} {o:Oper} {a:Act} {K:Act→World→Prop} {Q:Exit→Act→World→Prop}(s x:Operand)
  (ho:o.op=.call { callee:=.builtin .append,args:=#[s,x],argTypes:=#[23,23] }) (B B':Nat) (v vx:Value) (l l':List ByteArray) (hs:a.eval s=v) (hx:a.eval x=vx) (hI:ak w B v l) (hR:ak w B' vx l')
  (a4:l.length+l'.length≤2097152) (a0:B≤w.heap.size) (h:∀ v' w',ak w' B v' (l++l')→w.grownBy w' v.ownBlock→K (a.put o.dst v') w'):Oper.wp prog o a w K Q:=by
 obtain⟨i0,hi,a3,a1,a2⟩:=info_parts Nj;rcases hR.form with ⟨rfl,rfl⟩|⟨g,cap,rfl,_,_⟩
 .obtain⟨b,n,c',rfl,hnc⟩:∃ b n c,v=.slice b n c∧n≤c:=by
   rcases hI.form with ⟨rfl,rfl⟩|⟨g,cap,rfl,h1,_⟩
   .exact⟨_,_,_,rfl,bR⟩
   .exact⟨_,_,_,rfl,h1⟩
  refine Go.Lib.wp_append_run w s x 23 23 ho _ _ hs hx _ _ (xu w _ _ _ i0 underlying23 hi b n c' 0 hnc) ?_;refine h _ _ ?_ ⟨rfl,rfl,rfl,bR,fun _ _ _=>rfl⟩;rw[List.append_nil];exact hI
 .refine wp_append_own w s x 23 ho B 9 i0 _ 1 16 underlying23 hi a3 a1 a2 rfl (by decide) v l.length (l.map Value.string) hs hI ⟨g,0,none⟩ l'.length cap (l'.map Value.string) hx (by simp) (fun j u hj=>?_) (ah7 l') (by unfold maxLen;omega) (by omega) a0 fun v' w' h1 h2 _=>h v' w' ?_ h2
  .rw[List.getElem?_map]at hj
   obtain⟨y,hy,rfl⟩:=Option.map_eq_some_iff.1 hj;have:=hR.cell j y hy
   cases j with
   | zero=>simpa [Addr.add] using this
   | succ j=>simpa [Addr.add] using this
  .unfold ak
   rw[List.length_append,List.map_append];exact h1
theorem E9 {w:World} {a1:Array Oper} {rest:List Oper} {o:Oper} {a:Act} {Q:Exit→Act→World→Prop}(a3:o.guard=none) (s x:Operand)
  (ho:o.op=.call { callee:=.builtin .append,args:=#[s,x],argTypes:=#[23,23] }) (B B':Nat) (v vx:Value) (l l':List ByteArray) (hs:a.eval s=v) (hx:a.eval x=vx) (hI:ak w B v l) (hR:ak w B' vx l')
  (a2:l.length+l'.length≤2097152) (a0:B≤w.heap.size) (h:∀ v' w',ak w' B v' (l++l')→w.grownBy w' v.ownBlock→wpList prog a1 Q rest (a.put o.dst v') w'):wpList prog a1 Q (o::rest) a w :=
 wpList_plain a3 fun _ hK=>Jb s x ho B B' v vx l l' hs hx hI hR a2 a0 fun v' w' h1 h2=>hK _ _ (h v' w' h1 h2)
theorem a48 (w:World) (n B:Nat) (hn:n=w.heap.size) (hB:B≤w.heap.size):ak (w.alloc (.cells #[] 9)) B (.slice (some ⟨n,0,none⟩) 0 0) []:=by
 subst hn;exact⟨rfl,.inr ⟨w.heap.size,0,#[],rfl,hB,heap_alloc_new _ _,bR,Nat.zero_le _,rfl,rfl⟩⟩
theorem a53 (w:World) (n B:Nat) (x:ByteArray) (hn:n=w.heap.size) (hB:B≤w.heap.size):ak (w.alloc (.cells #[.string x] 9)) B (.slice (some ⟨n,0,none⟩) 1 1) [x]:=by
 subst hn;exact⟨rfl,.inr ⟨w.heap.size,1,_,rfl,hB,heap_alloc_new _ _,bR,by unfold maxLen;omega,rfl,rfl⟩⟩
def s4D (u:World) (p:Nat) (a b c d:Value):World:=(((u.setCell ⟨p,0,none⟩ a).setCell ⟨p,1,none⟩ b).setCell ⟨p,2,none⟩ c).setCell ⟨p,3,none⟩ d
theorem lu (u:World) (p:Nat) (a b c d:Value):u.grownBy (s4D u p a b c d) (some p):=(((dq u p 0 a).trans (dq _ p 1 b)).trans (dq _ p 2 c)).trans (dq _ p 3 d)
theorem jk {w u:World} {p:Nat}(h:Below w.heap.size w u) (hp:w.heap.size≤p) (a b c d:Value):Below w.heap.size w (s4D u p a b c d) :=
 Below.grown h (lu u p a b c d) h.size (fun j hj=>by have:=Option.some.inj hj;omega)
theorem Iu {u:World} {p:Nat} {r:ByteArray} {v:Value} {log:ByteArray} {syn:Int}(h:ba u p r v log syn) (r':ByteArray) (v':Value) (a0:ByteArray) (syn':Int):ba (s4D u p (.string r') v' (.string a0) (.int .i64 syn')) p r' v' a0 syn':=by
 have e0:=heap_setCell_same u p 0 _ _ (.string r') h;have e1:=heap_setCell_same _ p 1 _ _ v' e0;have e2:=heap_setCell_same _ p 2 _ _ (.string a0) e1;have e3:=heap_setCell_same _ p 3 _ _ (.int .i64 syn') e2;show _=_
 unfold s4D;rw[e3];simp
theorem ak.box {u u':World} {B p:Nat} {vp:Value} {ss:List ByteArray} {cs:Array Value} {t:TypeId}(h:ak u B vp ss) (hp:u.heap[p]? = some (.cells cs t (0,0))) (ht:9≠t) (g:u.grownBy u' (some p)):ak u' B vp ss :=
 World.ownsRow.kept h g (iw h hp ht)
theorem Rws.box {u u':World} {B p:Nat} {vr:Value} {l:List Rw} {cs:Array Value} {t:TypeId}(h:Rws u B vr l) (hp:u.heap[p]? = some (.cells cs t (0,0))) (ht:37≠t) (g:u.grownBy u' (some p)):Rws u' B vr l :=
 World.ownsRow.kept h g (iw h hp ht)
theorem ba.set {u:World} {b p k:Nat} {r:ByteArray} {v:Value} {log:ByteArray} {syn:Int}(h:ba u b r v log syn) (hp:b≠p) (x:Value):ba (u.setCell ⟨p,k,none⟩ x) b r v log syn:=(heap_setCell_other u ⟨p,k,none⟩ b x hp).trans h
theorem Do {u u':World} {p B e size n:Nat} {v:Value} {xs:List Value} {cs:Array Value} {t:TypeId}(h:u.heap[p]? = some (.cells cs t (0,0))) (hr:u.ownsRow B e size v n xs) (ht:e≠t) (g:u.grownBy u' v.ownBlock):u'.heap[p]? = some (.cells cs t (0,0)):=by
 refine (g.block p (Array.getElem?_eq_some_iff.1 h).1 (fun c=>?_)).trans h;rcases iw hr h ht with h0|h0
 .rw[h0]at c;cases c
 .exact h0 c.symm
def pg7:ByteArray:=⟨#[80,71,1,0,0,0,0]⟩
theorem Kt:an pg7=[⟨⟨#[]⟩,⟨#[]⟩,⟨#[]⟩⟩]:=by kernel_rfl
theorem Zv (a:ByteArray):ltK a ⟨#[]⟩=false:=by
 unfold ltK;rw[show (⟨#[]⟩:ByteArray).toList=[] by rw[ByteArray.toList_eq]]
 cases a.toList <;> rfl
theorem Mc:∀ (ss:List ByteArray) (acc gs:List (List Rw)) (s:ByteArray),bkF acc (ss++[s])=some gs→∃ gs0,bkF acc ss=some gs0∧ft gs0 s=true∧gs=gs0++[an s]
 | [],acc,gs,s,h=>by
  have h':(if ft acc s=true then bkF (acc++[an s]) [] else none)=some gs:=h;split at h'
  .rename_i ho
   have h2:some (acc++[an s])=some gs:=h'
   cases h2
   exact⟨acc,rfl,ho,rfl⟩
  .cases h'
 | t::ss,acc,gs,s,h=>by
  have h':(if ft acc t=true then bkF (acc++[an t]) (ss++[s]) else none)=some gs:=h;split at h'
  .rename_i ho
   obtain⟨gs0,q1,q2,q3⟩:=Mc ss _ gs s h';refine⟨gs0,?_,q2,q3⟩;show (if ft acc t=true then bkF (acc++[an t]) ss else none)=some gs0
   rw[if_pos ho,q1]
  .cases h'
theorem ah0 {ss:List ByteArray}(h:q9 ss):q9 (ss++[pg7]):=by
 intro gs hb;unfold ca at hb;split at hb
 .rename_i h40
  obtain⟨gs0,q1,q2,q3⟩:=Mc ss [] gs pg7 hb;have a0:ca ss=some gs0:=by
   unfold ca;rw[if_pos (by simp at h40;omega)];exact q1
  have hs:=h gs0 a0;have h0:gs0=[]:=by
   unfold ft at q2;rw[Bool.and_eq_true]at q2
   cases hg:gs0.getLast? with
   | none=>exact List.getLast?_eq_none_iff.1 hg
   | some l =>
    have q4:=q2.2;rw[hg]at q4;have q5:ltK (mu l) (qb (an pg7))=true:=q4;rw[Kt]at q5;have q6:ltK (mu l) ⟨#[]⟩=true:=q5;rw[Zv]at q6
    cases q6
  subst h0;rw[q3,Kt];refine⟨by simp,fun x hx=>?_⟩;have:x=⟨⟨#[]⟩,⟨#[]⟩,⟨#[]⟩⟩:=by simpa using hx
  subst this;exact⟨by decide,by decide⟩
 .cases hb
def Lg7 (d:Ds7):Prop:=d.log.size≤6000∧d.ss.length≤40
theorem as7 {d:Ds7}(h:Lg7 d) (k:Int) (x v:ByteArray):Lg7 (do7 d k x v).2:=by
 unfold do7;split
 .exact⟨Nat.zero_le _,Nat.zero_le _⟩
 .split
  .unfold doL
   split
   .exact h
   split
   .split
    .rename_i pp hp
     obtain⟨_,_,_,_,_,a0,_⟩:=Ay hp;exact⟨Nat.zero_le _,a0⟩
    .exact h
   split
   .split
    .rename_i hs
     refine⟨?_,h.2⟩;show (d.log++_).size≤6000
     rw[ByteArray.size_append];exact hs
    .exact h
   .exact h
  .exact⟨Nat.zero_le _,Nat.zero_le _⟩
end Go.Proofs.YtjbmgghehdemdaaGreatDoor
