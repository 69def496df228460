/- PRule -/
import Derived.Test.YtjbmgghehdemdaaGreatDoorMT18
import Derived.Test.YtjbmgghehdemdaaGreatDoorMT17
import Derived.Test.YtjbmgghehdemdaaGreatDoorMT22
namespace Go.Proofs.YtjbmgghehdemdaaGreatDoor
set_option maxRecDepth 100000
set_option maxHeartbeats 16000000
open _root_.Go.Proofs.Tryz
def firstOf (r:Int):Int:=match mk (base r) with
 | some e=>e.first
 | none=>0
theorem Mw:((List.range 127).all fun k=>match mk (base (k:Int)) with|some e=>ff e.first|none=>true)=true:=by kernel_rfl
theorem ai6 {k:Nat} {e:El}(hk:k<127) (h:mk (base (k:Int))=some e):ff e.first=true:=by
 have:=List.all_eq_true.1 Mw k (List.mem_range.2 hk);rw[h]at this;exact this
theorem Hv {e:El}(h:e.first≠0):mk [e]=some e:=if_neg h
theorem a59 {n:Int}(h:ff n=true):∃ (k:Nat) (e:El),k<127∧mk (base (k:Int))=some e∧e.first=n:=by
 rcases of_decide_eq_true h with ⟨h1,h2,h3⟩|⟨h1,h2,h3⟩|h
 .obtain⟨k,hk⟩:∃ k:Nat,(k:Int)=48+(n-2000) / 100:=⟨(48+(n-2000) / 100).toNat,by omega⟩
  refine⟨k,⟨2000+100*((k:Int)-48),32,2,false⟩,by omega,?_,by simp only;omega⟩;rw[Gt (by omega)];exact Hv (by simp only;omega)
 .obtain⟨k,hk⟩:∃ k:Nat,(k:Int)=97+(n-4000) / 200:=⟨(97+(n-4000) / 200).toNat,by omega⟩
  refine⟨k,⟨4000+200*((k:Int)-97),32,2,false⟩,by omega,?_,by simp only;omega⟩;rw[Gu (by omega)];exact Hv (by simp only;omega)
 .have h9:n=1∨n=2∨n=3∨n=4∨n=5∨n=6∨n=7∨n=8∨n=9:=by omega
  rcases h9 with rfl|rfl|rfl|rfl|rfl|rfl|rfl|rfl|rfl
  .exact⟨32,⟨1,32,2,true⟩,by omega,rfl,rfl⟩
  .exact⟨95,⟨2,32,2,true⟩,by omega,rfl,rfl⟩
  .exact⟨45,⟨3,32,2,true⟩,by omega,rfl,rfl⟩
  .exact⟨44,⟨4,32,2,true⟩,by omega,rfl,rfl⟩
  .exact⟨59,⟨5,32,2,true⟩,by omega,rfl,rfl⟩
  .exact⟨58,⟨6,32,2,true⟩,by omega,rfl,rfl⟩
  .exact⟨33,⟨7,32,2,true⟩,by omega,rfl,rfl⟩
  .exact⟨63,⟨8,32,2,true⟩,by omega,rfl,rfl⟩
  .exact⟨46,⟨9,32,2,true⟩,by omega,rfl,rfl⟩
def qv (n:Int) (k:Nat):Prop:=∀ j e,j<k→mk (base (j:Int))=some e→e.first≠n
theorem qv.succ {n:Int} {k:Nat}(h:qv n k) (hn:∀ e,mk (base (k:Int))=some e→e.first≠n):qv n (k+1):=by
 intro j e hj he;by_cases c:j=k
 .subst c;exact hn e he
 .exact h j e (by omega) he
theorem qv.all {n:Int} {k:Nat}(h:qv n k) (hk:127≤k):ff n=false:=by
 cases c:ff n
 .rfl
 .obtain⟨j,e,hj,he,hn⟩:=a59 c
  exact absurd hn (h j e (by omega) he)
def wdB (l:List UInt8):ByteArray:=⟨(dn l).1.toArray⟩
def wdR (l:List UInt8):List UInt8:=(dn l).2
theorem Ja {l:List UInt8}(h:(dn l).1=[]):wf l []=[]:=by rw[Th,if_pos h]
theorem wq {l:List UInt8}(h:(dn l).1≠[]):wf l []=wdB l::wf (wdR l) []:=by rw[Th,if_neg h];rfl
def jOk (x:ByteArray):Bool:=decide (x.size≤200) && bd (nD (Dec.decT x.size x).1)
def nc (st:RS) (lev:Nat) (x:ByteArray):Except Int RS:=if 200<x.size then .error 2 else d8 st lev (nD (Dec.decT x.size x).1)
def si (st:RS) (x:ByteArray):Except Int RS:=match rk x with
 | none=>.error 2
 | some n=>.ok { st with lv:=n }
theorem ae8 {st:RS} {lev:Nat} {l:List Int}(h:bd l=false):d8 st lev l=.error 2:=if_pos h
theorem J4 {st:RS} {lev:Nat} {x:ByteArray}(h:jOk x=false):nc st lev x=.error 2:=by
 unfold nc;split
 .rfl
 .rename_i c
  unfold jOk at h;rw[decide_eq_true (show x.size≤200 by omega),Bool.true_and]at h;exact ae8 h
theorem Oj {st:RS} {lev:Nat} {x:ByteArray}(h:jOk x=true):nc st lev x=d8 st lev (nD (Dec.decT x.size x).1):=by
 unfold nc;unfold jOk at h;rw[Bool.and_eq_true]at h;rw[if_neg (by have:=of_decide_eq_true h.1;omega)]
theorem af1 {st:RS} {lev:Nat} {l:List UInt8}(h:(dn l).1=[]):nc st lev (wdB l)=.error 2:=by
 apply J4
 unfold jOk wdB;rw[h];rfl
theorem ac6 {st:RS} {l:List UInt8}(h:(dn l).1=[]):si st (wdB l)=.error 2:=by
 have e:rk (wdB l)=none:=by
  unfold wdB rk;rw[h];rfl
 unfold si;rw[e]
theorem a18 {l:List UInt8} {st:RS}(h:(dn l).1=[]):bf (wf l []) st=.ok st:=by
 rw[Ja h];rfl
theorem Rm {l:List UInt8} {st:RS}(h:(dn l).1≠[]) (hx:((wdB l).toList == jl)=true):bf (wf l []) st=bf (wf (wdR l) []) { st with sh:=true }:=by
 rw[wq h];conv=>lhs;unfold bf
 rw[if_pos hx]
theorem Om {l:List UInt8} {st:RS}(h:(dn l).1≠[]) (h1:((wdB l).toList == jl)=false) (hx:((wdB l).toList == jp)=true) :
  bf (wf l []) st=match si st (wdB (wdR l)) with
   | .error c=>.error c
   | .ok st'=>bf (wf (wdR (wdR l)) []) st':=by
 rw[wq h];by_cases h2:(dn (wdR l)).1=[]
 .rw[Ja h2,ac6 h2]
  conv=>lhs;unfold bf
  rw[if_neg (by simp[h1]),if_pos hx]
 .rw[wq h2]
  conv=>lhs;unfold bf
  rw[if_neg (by simp[h1]),if_pos hx];simp only;unfold si
  cases rk (wdB (wdR l)) <;> rfl
theorem af3 {l:List UInt8} {st:RS} {lev:Nat}(h:(dn l).1≠[]) (h1:((wdB l).toList == jl)=false) (h2:((wdB l).toList == jp)=false) (hx:ma (wdB l)=some lev) :
  bf (wf l []) st=match nc st lev (wdB (wdR l)) with
   | .error c=>.error c
   | .ok st'=>bf (wf (wdR (wdR l)) []) st':=by
 rw[wq h];by_cases h3:(dn (wdR l)).1=[]
 .rw[Ja h3,af1 h3]
  conv=>lhs;unfold bf
  rw[if_neg (by simp[h1]),if_neg (by simp[h2]),hx]
 .rw[wq h3]
  conv=>lhs;unfold bf
  rw[if_neg (by simp[h1]),if_neg (by simp[h2]),hx];simp only;unfold nc;split
  .rfl
  .cases d8 st lev (nD (Dec.decT (wdB (wdR l)).size (wdB (wdR l))).1) <;> rfl
theorem a20 {l:List UInt8} {st:RS}(h:(dn l).1≠[]) (h1:((wdB l).toList == jl)=false) (h2:((wdB l).toList == jp)=false) (hx:ma (wdB l)=none):bf (wf l []) st=.error 2:=by
 rw[wq h];conv=>lhs;unfold bf
 rw[if_neg (by simp[h1]),if_neg (by simp[h2]),hx]
theorem W6 {st:RS} {lev:Nat} {l:List Int} {c:Int}(h:d8 st lev l=.error c):c≠0:=by
 unfold d8 at h;split at h
 .cases h;decide
 .split at h
  .split at h
   .cases h;decide
   .split at h
    .cases h;decide
    .cases h
  .split at h
   .cases h;decide
   .split at h
    .cases h;decide
    .split at h
     .cases h
     .cases h;decide
theorem af0 {st st':RS} {lev:Nat} {x:ByteArray}(hi:gj st) (h:nc st lev x=.ok st'):gj st':=by
 unfold nc at h;split at h
 .cases h
 .exact qr hi h
theorem Zs {x:ByteArray} {n:Int}(h:rk x=some n):1≤n∧n≤4:=by
 unfold rk at h;split at h
 .cases h;omega
 .cases h
theorem ac4 {st st':RS} {x:ByteArray}(hi:gj st) (h:si st x=.ok st'):gj st':=by
 unfold si at h;split at h
 .cases h
 .rename_i n hn
  cases h
  exact⟨Bd hi.good (Zs hn),hi.f0,hi.f1,hi.s0,hi.s1,hi.t0,hi.t1⟩
theorem a42 {st:RS}(hi:gj st):gj { st with sh:=true }:=⟨hi.good,hi.f0,hi.f1,hi.s0,hi.s1,hi.t0,hi.t1⟩
theorem ac1 (x:ByteArray):rk x=if x.toList == [49,93] then some 1 else if x.toList == [50,93] then some 2 else if x.toList == [51,93] then some 3 else if x.toList == [52,93] then some 4 else none:=by
 obtain⟨⟨l⟩⟩:=x;have e:(⟨⟨l⟩⟩:ByteArray).toList=l:=by rw[ByteArray.toList_eq]
 rw[e];unfold rk;match l with
 | []=>rfl
 | [_] =>
  rw[if_neg (fun h=>by have:=h.1;simp[ByteArray.size]at this)];simp
 | [a,c] =>
  have s2:(⟨⟨[a,c]⟩⟩:ByteArray).size=2:=rfl;have b0:Dec.bt ⟨⟨[a,c]⟩⟩ 0=a.toNat:=rfl;have b1:Dec.bt ⟨⟨[a,c]⟩⟩ 1=c.toNat:=rfl;rw[s2,b0,b1];have inj:∀ (p:UInt8) (n:Nat),n<256→(p=UInt8.ofNat n↔p.toNat=n):=fun p n hn=>by
   constructor
   .intro h;rw[h];simp;omega
   .intro h;rw[<- h];simp
  have a6:(c=93)↔c.toNat=93:=inj c 93 (by omega);have a2:(a=49)↔a.toNat=49:=inj a 49 (by omega);have a3:(a=50)↔a.toNat=50:=inj a 50 (by omega);have a4:(a=51)↔a.toNat=51:=inj a 51 (by omega);have a5:(a=52)↔a.toNat=52:=inj a 52 (by omega);have a1:∀ k:UInt8,([a,c] == [k,93])=decide (a=k∧c=93):=fun k=>by
   rw[Bool.eq_iff_iff];simp
  rw[a1,a1,a1,a1];by_cases hc:c.toNat=93
  .have a0:=a6.2 hc
   by_cases q1:a.toNat=49
   .simp[a0,a2.2 q1]
   .by_cases q2:a.toNat=50
    .simp[a0,a3.2 q2]
    .by_cases q3:a.toNat=51
     .simp[a0,a4.2 q3]
     .by_cases q4:a.toNat=52
      .simp[a0,a5.2 q4]
      .have n1:¬ a=49:=fun h=>q1 (a2.1 h)
       have n2:¬ a=50:=fun h=>q2 (a3.1 h)
       have n3:¬ a=51:=fun h=>q3 (a4.1 h)
       have n4:¬ a=52:=fun h=>q4 (a5.1 h)
       rw[if_neg (by omega)];simp[n1,n2,n3,n4]
  .have a0:¬ c=93:=fun h=>hc (a6.1 h)
   rw[if_neg (fun h=>hc h.2.2.2)];simp[a0]
 | _::_::_::t =>
  rw[if_neg (fun h=>by have:=h.1;simp[ByteArray.size]at this)];simp
theorem Ig {p:Int→Bool} {nx:Int→Int} {M:Int}(hp:∀ n,p n=true→n≤M) (hx:∀ n,n<nx n):∀ (f:Nat) (n:Int),M-n<(f:Int)→p (o7 p nx f n)=false:=by
 intro f;induction f with
 | zero =>
  intro n h
  cases c:p n
  .exact c
  .have:=hp n c;omega
 | succ f ih =>
  intro n h;unfold o7;split
  .have:=hx n
   exact ih (nx n) (by omega)
  .rename_i c;simpa using c
theorem Xe {es:List Ent}(hF:∀ e ∈ es,e.el.first≤65535):∀ (f:Nat) (n:Int),n≤65536→65536-n≤(f:Int)→du es (ke es f n)=true:=by
 intro f;induction f with
 | zero =>
  intro n h1 h2;have:n=65536:=by omega
  subst this;exact xi hF
 | succ f ih =>
  intro n h1 h2;unfold ke;split
  .assumption
  .rename_i c
   have:n≠65536:=fun e=>c (by rw[e];exact xi hF)
   exact ih (n+1) (by omega) (by omega)
theorem Tu {st:RS} {lev:Nat}(hi:gj st) (hl:lev=1∨lev=2∨lev=3):∀ e ∈ st.es,e.el≠gk st.es st.last lev:=by
 obtain⟨h1,h2,h3⟩:=cg hi.good;intro e he c;rcases hl with rfl|rfl|rfl
 .have hf:=Xe (es:=st.es) (fun e he=>(h3 e he).2.1.2) (65535-st.last.first).toNat (st.last.first+1) (by have:=hi.f1;omega) (by have:=hi.f1;omega)
  have e1:e.el.first=ke st.es (65535-st.last.first).toNat (st.last.first+1):=by rw[c];rfl
  rw[<- e1]at hf;unfold du at hf;rw[Bool.and_eq_true]at hf;have:=List.all_eq_true.1 hf.2 e he;simp at this
 .have hf:=Ig (p:=fun n=>d6 st.es (q2 st.last n)) (nx:=nx2) (M:=999) (fun n hn=>by
   obtain⟨x,hx,hq⟩:=List.any_eq_true.1 hn;unfold q2 at hq;rw[Bool.and_eq_true]at hq;have:=(h3 x hx).2.2.1.2;have:=eq_of_beq hq.2;omega) (fun n=>by unfold nx2;omega) 1001 (st.last.second+1) (by have:=hi.s0;omega)
  have e1:e.el.first=st.last.first:=by rw[c];rfl
  have e2:e.el.second=o7 (fun n=>d6 st.es (q2 st.last n)) nx2 1001 (st.last.second+1):=by rw[c];rfl
  rw[<- e2]at hf;have:d6 st.es (q2 st.last e.el.second)=true:=List.any_eq_true.2 ⟨e,he,by unfold q2;simp[e1]⟩;rw[this]at hf
  cases hf
 .have hf:=Ig (p:=fun n=>d6 st.es (q3 st.last n)) (nx:=nx3) (M:=99) (fun n hn=>by
   obtain⟨x,hx,hq⟩:=List.any_eq_true.1 hn;unfold q3 at hq;rw[Bool.and_eq_true]at hq;have:=(h3 x hx).2.2.2.1.2;have:=eq_of_beq hq.2;omega) Cq 1001 (nx3 st.last.third) (by have:=hi.t0;have:=Cq st.last.third;omega)
  have e1:e.el.first=st.last.first:=by rw[c];rfl
  have e2:e.el.second=st.last.second:=by rw[c];rfl
  have e3:e.el.third=o7 (fun n=>d6 st.es (q3 st.last n)) nx3 1001 (nx3 st.last.third):=by rw[c];rfl
  rw[<- e3]at hf;have:d6 st.es (q3 st.last e.el.third)=true:=List.any_eq_true.2 ⟨e,he,by unfold q3;simp[e1,e2]⟩;rw[this]at hf
  cases hf
def y5 (es:List Ent):Prop:=∀ (i j:Nat) (e e':Ent),i<j→es[i]? = some e→es[j]? = some e'→e.el≠e'.el
theorem y5.snoc {es:List Ent} {x:Ent}(h:y5 es) (hx:∀ e ∈ es,e.el≠x.el):y5 (es++[x]):=by
 intro i j e e' a1 he a0;have hj:=(List.getElem?_eq_some_iff.1 a0).1;simp at hj;by_cases c:j<es.length
 .rw[List.getElem?_append_left (by omega)]at he
  rw[List.getElem?_append_left c]at a0;exact h i j e e' a1 he a0
 .have:j=es.length:=by omega
  subst this;rw[List.getElem?_append_left (by omega)]at he;simp at a0;subst a0;exact hx e (List.mem_of_getElem? he)
theorem W8 {st st':RS} {lev:Nat} {l:List Int}(hi:gj st) (hd:y5 st.es) (hl:lev≤3) (h:d8 st lev l=.ok st'):y5 st'.es:=by
 unfold d8 at h;split at h
 .cases h
 .split at h
  .split at h
   .cases h
   .split at h
    .cases h
    .cases h;exact hd
  .rename_i c0
   split at h
   .cases h
   .split at h
    .cases h
    .split at h
     .cases h
      exact hd.snoc (Tu hi (by omega))
     .cases h
theorem ac3 {x:ByteArray} {lev:Nat}(h:ma x=some lev):lev≤3:=by
 unfold ma at h;repeat' split at h
 all_goals first|(cases h;omega)|cases h
theorem vz:∀ (ws:List ByteArray) (st st':RS),gj st→y5 st.es→bf ws st=.ok st'→y5 st'.es∧gj st'
 | [],st,st',hi,hd,h=>by
  unfold bf at h
  cases h
  exact⟨hd,hi⟩
 | x::ws,st,st',hi,hd,h=>by
  unfold bf at h;split at h
  .exact vz ws { st with sh:=true } st' ⟨hi.good,hi.f0,hi.f1,hi.s0,hi.s1,hi.t0,hi.t1⟩ hd h
  .split at h
   .split at h
    .cases h
    .rename_i y ws'
     split at h
     .cases h
     .rename_i n hn
      refine vz ws' { st with lv:=n } st' ⟨Bd hi.good ?_,hi.f0,hi.f1,hi.s0,hi.s1,hi.t0,hi.t1⟩ hd h;unfold rk at hn;split at hn
      .cases hn;simp only;omega
      .cases hn
   .split at h
    .cases h
    .rename_i lev hlev
     split at h
     .cases h
     .rename_i y ws'
      split at h
      .cases h
      .split at h
       .cases h
       .rename_i st2 hp
        exact vz ws' st2 st' (qr hi hp) (W8 hi hd (ac3 hlev) hp) h
theorem vv:∀ (ws:List ByteArray) (st:RS) (c:Int),bf ws st=.error c→c≠0
 | [],st,c,h=>by unfold bf at h;cases h
 | x::ws,st,c,h=>by
  unfold bf at h;split at h
  .exact vv ws _ c h
  .split at h
   .split at h
    .cases h;decide
    .rename_i y ws'
     split at h
     .cases h;decide
     .exact vv ws' _ c h
   .split at h
    .cases h;decide
    .split at h
     .cases h;decide
     .rename_i y ws'
      split at h
      .cases h;decide
      .split at h
       .rename_i k hp
        cases h
        exact W6 hp
       .exact vv ws' _ c h
theorem B0 (s:ByteArray) (h:(aa s).code=0):ay (aa s).es (aa s).lv=true∧y5 (aa s).es:=by
 unfold aa at h ⊢;split at h
 .cases h
 .rename_i c
  rw[if_neg c]
  cases e:bf (rx s) rs0 with
  | error k=>rw[e]at h;exact absurd h (vv _ _ _ e)
  | ok st =>
   have:=vz (rx s) rs0 st Wq (fun i j e e' _ h1=>by simp[rs0]at h1) e;exact⟨this.2.good,this.1⟩
structure Dn where
 put:Bool
 text:ByteArray
 val:ByteArray
def bh (R:RA) (x:ByteArray):ByteArray:=qf R.es R.sh R.lv x
def gn (R:RA) (x:ByteArray):Bool:=decide (x.size≤60) && decide ((bh R x).size≤200)
def Cy (R:RA) (o:Dn):Rw:=⟨bh R o.text,o.text,o.val⟩
def apC (R:RA) (l:List Rw) (o:Dn):Int :=
 if (gn R o.text && decide (o.val.size≤60))=false then 2
 else if o.put=true then (if (gz l (Cy R o)).length≤60 then 0 else 3)
 else if d9 l (bh R o.text)=true then 0 else 4
def apR (R:RA) (l:List Rw) (o:Dn):List Rw:=if o.put=true then gz l (Cy R o) else qz l (bh R o.text)
def oq (R:RA):List Rw→List Dn→Option (List Rw)
 | l,[]=>some l
 | l,o::os=>if apC R l o=0 then oq R (apR R l o) os else none
def bq (s:ByteArray):Option (Dn × Nat) :=
 if s.size=0 then none
 else if hd s 0=112 then
  (if s.size<3 then none
   else if s.size≤3+hd s 1+hd s 2 then none
   else if hd s (3+hd s 1+hd s 2)=46 then some (⟨true,s.extract 3 (3+hd s 1),s.extract (3+hd s 1) (3+hd s 1+hd s 2)⟩,3+hd s 1+hd s 2+1) else none)
 else if hd s 0=100 then
  (if s.size<2 then none
   else if s.size≤2+hd s 1 then none
   else if hd s (2+hd s 1)=46 then some (⟨false,s.extract 2 (2+hd s 1),⟨#[]⟩⟩,2+hd s 1+1) else none)
 else none
theorem wm {s:ByteArray} {o:Dn} {n:Nat}(h:bq s=some (o,n)):1≤n∧n≤s.size:=by
 unfold bq at h;split at h
 .cases h
 split at h
 .split at h
  .cases h
  split at h
  .cases h
  split at h
  .injection h with h
   injection h with _ h;omega
  .cases h
 split at h
 .split at h
  .cases h
  split at h
  .cases h
  split at h
  .injection h with h
   injection h with _ h;omega
  .cases h
 .cases h
theorem T5 {s:ByteArray} {o:Dn} {n:Nat}(h:bq s=some (o,n)):o.text.size≤255∧o.val.size≤255∧(o.put=false→o.val=⟨#[]⟩):=by
 have b1:=jc s 1;have b2:=jc s 2;have hx:∀ a b:Nat,(s.extract a (a+b)).size≤b:=fun a b=>by rw[ByteArray.size_extract];omega
 unfold bq at h;split at h
 .cases h
 split at h
 .split at h
  .cases h
  split at h
  .cases h
  split at h
  .injection h with h
   injection h with h _;subst h;have q1:=hx 3 (hd s 1);have q2:=hx (3+hd s 1) (hd s 2);exact⟨by show (s.extract 3 (3+hd s 1)).size≤255;omega,by show (s.extract (3+hd s 1) (3+hd s 1+hd s 2)).size≤255;omega,fun e=>by cases e⟩
  .cases h
 split at h
 .split at h
  .cases h
  split at h
  .cases h
  split at h
  .injection h with h
   injection h with h _;subst h;have q1:=hx 2 (hd s 1);exact⟨by show (s.extract 2 (2+hd s 1)).size≤255;omega,by show 0≤255;omega,fun _=>rfl⟩
  .cases h
 .cases h
def n9:Nat→ByteArray→Option (List Dn)
 | 0,s=>if s.size=0 then some [] else none
 | f+1,s=>if s.size=0 then some [] else match bq s with
  | none=>none
  | some (o,n)=>(n9 f (s.extract n s.size)).map (o::·)
def jd (s:ByteArray):Option (List Dn):=n9 s.size s
theorem li (s:ByteArray) (n:Nat):(s.extract n s.size).size=s.size-n:=by rw[ByteArray.size_extract];omega
theorem Kj:∀ (f g:Nat) (s:ByteArray),s.size≤f→s.size≤g→n9 f s=n9 g s
 | 0,0,_,_,_=>rfl
 | 0,g+1,s,h1,_=>by unfold n9;rw[if_pos (by omega),if_pos (by omega)]
 | f+1,0,s,_,h2=>by unfold n9;rw[if_pos (by omega),if_pos (by omega)]
 | f+1,g+1,s,h1,h2=>by
  unfold n9;by_cases h0:s.size=0
  .rw[if_pos h0,if_pos h0]
  .rw[if_neg h0,if_neg h0]
   cases hr:bq s with
   | none=>rfl
   | some p =>
    obtain⟨o,n⟩:=p;have hb:=wm hr;have hz:=li s n;show (n9 f (s.extract n s.size)).map _=(n9 g (s.extract n s.size)).map _
    rw[Kj f g (s.extract n s.size) (by omega) (by omega)]
theorem O0 {s:ByteArray}(h:s.size=0):jd s=some []:=by unfold jd;rw[h];unfold n9;rw[if_pos h]
theorem Ki {s:ByteArray}(h0:s.size≠0) (h:bq s=none):jd s=none:=by
 unfold jd;obtain⟨m,hm⟩:∃ m,s.size=m+1:=⟨s.size-1,by omega⟩
 rw[hm];unfold n9;rw[if_neg h0,h]
theorem Cm {s:ByteArray} {o:Dn} {n:Nat}(h:bq s=some (o,n)):jd s=(jd (s.extract n s.size)).map (o::·):=by
 have hb:=wm h;have hz:=li s n;unfold jd;obtain⟨m,hm⟩:∃ m,s.size=m+1:=⟨s.size-1,by omega⟩
 rw[show n9 s.size s=n9 (m+1) s by rw[hm]];show (if s.size=0 then some [] else match bq s with|none=>none|some (o,n)=>(n9 m (s.extract n s.size)).map (o::·))=_
 rw[if_neg (by omega),h];show (n9 m (s.extract n s.size)).map _=_
 rw[Kj m _ (s.extract n s.size) (by omega) bR]
def pj (R:RA) (l:List Rw) (s:ByteArray):Option (List Rw):=(jd s).bind (oq R l)
theorem ag5 {R:RA} {l:List Rw} {s:ByteArray}(h:s.size=0):pj R l s=some l:=by unfold pj;rw[O0 h];rfl
theorem a30 {R:RA} {l:List Rw} {s:ByteArray}(h0:s.size≠0) (h:bq s=none):pj R l s=none:=by unfold pj;rw[Ki h0 h];rfl
theorem Ot {R:RA} {l:List Rw} {s:ByteArray} {o:Dn} {n:Nat}(h:bq s=some (o,n)) (hc:apC R l o≠0):pj R l s=none:=by
 unfold pj;rw[Cm h]
 cases jd (s.extract n s.size) with
 | none=>rfl
 | some os=>show oq R l (o::os)=none;unfold oq;rw[if_neg hc]
theorem a32 {R:RA} {l:List Rw} {s:ByteArray} {o:Dn} {n:Nat}(h:bq s=some (o,n)) (hc:apC R l o=0):pj R l s=pj R (apR R l o) (s.extract n s.size):=by
 unfold pj;rw[Cm h]
 cases jd (s.extract n s.size) with
 | none=>rfl
 | some os=>show oq R l (o::os)=oq R (apR R l o) os;rw[oq,if_pos hc]
def iy (R:RA) (l:List Rw):Bool:=l.all fun x=>decide (bh R x.text=x.key)
def dx (R:RA) (pages:List ByteArray) (log:ByteArray):Option (List Rw) :=
 match ca pages with
 | none=>none
 | some gs=>if R.code=0∧iy R gs.flatten=true∧log.size≤6000 then pj R gs.flatten log else none
structure im (R:RA) (l:List Rw):Prop where
 rise:lm l
 len:l.length≤60
 sz:∀ x ∈ l,x.text.size≤60∧x.val.size≤60∧x.key.size≤200
 key:∀ x ∈ l,bh R x.text=x.key
theorem a67 {R:RA} {l:List Rw} {o:Dn}(h:apC R l o=0):gn R o.text=true∧o.val.size≤60∧(o.put=true→(gz l (Cy R o)).length≤60)∧(o.put=false→d9 l (bh R o.text)=true):=by
 unfold apC at h;split at h
 .cases h
 rename_i hf
 have a0:(gn R o.text && decide (o.val.size≤60))=true:=by simpa using hf
 rw[Bool.and_eq_true,decide_eq_true_eq]at a0;split at h
 .rename_i hp
  split at h
  .rename_i hl
   exact⟨a0.1,a0.2,fun _=>hl,fun e=>by rw[hp]at e;cases e⟩
  .cases h
 .rename_i hp
  split at h
  .rename_i ht
   exact⟨a0.1,a0.2,fun e=>absurd e hp,fun _=>ht⟩
  .cases h
theorem vk {R:RA} {x:ByteArray}(h:gn R x=true):x.size≤60∧(bh R x).size≤200:=by
 unfold gn at h;rw[Bool.and_eq_true,decide_eq_true_eq,decide_eq_true_eq]at h;exact h
theorem im.step {R:RA} {l:List Rw} {o:Dn}(h:im R l) (hc:apC R l o=0):im R (apR R l o):=by
 obtain⟨h1,h2,h3,h4⟩:=a67 hc;unfold apR
 cases hp:o.put
 .rw[if_neg (by simp)]
  have ht:=h4 hp;have hs:=Ym l (bh R o.text);exact⟨wl ((wo h.rise).sublist hs),Nat.le_trans hs.length_le h.len,fun x hx=>h.sz x (hs.subset hx),fun x hx=>h.key x (hs.subset hx)⟩
 .rw[if_pos rfl]
  have hf:=vk h1;refine⟨wl (an5 (wo h.rise)),h3 hp,fun x hx=>?_,fun x hx=>?_⟩
  .rcases Nl hx with rfl|hx
   .exact⟨hf.1,h2,hf.2⟩
   .exact h.sz x hx
  .rcases Nl hx with rfl|hx
   .rfl
   .exact h.key x hx
theorem im.run {R:RA}:∀ (os:List Dn){l l':List Rw},im R l→oq R l os=some l'→im R l'
 | [],l,l',h,hr=>by cases hr;exact h
 | o::os,l,l',h,hr=>by
  unfold oq at hr;split at hr
  .rename_i hc
   exact im.run os (h.step hc) hr
  .cases hr
def q9 (pages:List ByteArray):Prop:=∀ gs,ca pages=some gs→gs.flatten.length≤60∧∀ x ∈ gs.flatten,x.text.size≤60∧x.val.size≤60
theorem Vz {R:RA} {pages:List ByteArray} {log:ByteArray} {l:List Rw}(hs:q9 pages) (h:dx R pages log=some l):im R l:=by
 unfold dx at h
 cases hb:ca pages with
 | none=>rw[hb]at h;cases h
 | some gs =>
  rw[hb]at h;simp only at h;split at h
  .rename_i hc
   have hB:=(uz hb).1;have h0:im R gs.flatten:=by
    refine⟨wl hB.pw,(hs gs hb).1,fun x hx=>?_,fun x hx=>?_⟩
    .obtain⟨g,hg,hxg⟩:=List.mem_flatten.1 hx
     have hz:=(oh.1 (hB.good g hg).1).2.1 x hxg;unfold sz1 at hz;rw[Bool.and_eq_true,Bool.and_eq_true,decide_eq_true_eq]at hz;exact⟨((hs gs hb).2 x hx).1,((hs gs hb).2 x hx).2,hz.1.1⟩
    .have:=List.all_eq_true.1 hc.2.1 x hx
     simpa using this
   unfold pj at h
   cases hl:jd log with
   | none=>rw[hl]at h;cases h
   | some os=>rw[hl]at h;exact h0.run os h
  .cases h
open Go.RowKit
structure Ev7 (w:World) (pb pl pf pn:Addr):Prop where
 bad:w.cell? ⟨0,0,none⟩=some (.iface 298 (.pointer (some pb)))
 long:w.cell? ⟨1,0,none⟩=some (.iface 298 (.pointer (some pl)))
 full:w.cell? ⟨2,0,none⟩=some (.iface 298 (.pointer (some pf)))
 none_:w.cell? ⟨3,0,none⟩=some (.iface 298 (.pointer (some pn)))
theorem Ev7.below {w w':World} {pb pl pf pn:Addr}(h:Ev7 w pb pl pf pn) (hb:Below w.heap.size w w'):Ev7 w' pb pl pf pn :=
 ⟨(hb.cell (p:=⟨0,0,none⟩) (ag h.bad)).trans h.bad,(hb.cell (p:=⟨1,0,none⟩) (ag h.long)).trans h.long,(hb.cell (p:=⟨2,0,none⟩) (ag h.full)).trans h.full,(hb.cell (p:=⟨3,0,none⟩) (ag h.none_)).trans h.none_⟩
theorem po {B:Nat} {w u:World}(h:Below B w u) (n:Nat):Below B w (u.drewN n):=⟨h.os,h.tape,h.output,h.size,h.block⟩
structure Ru7 (w:World) (B:Nat) (ve:Value) (R:RA):Prop where
 ents:ac w B ve R.es
 ok:ay R.es R.lv=true
 tabs:dr w
theorem Ru7.below {w w':World} {B:Nat} {ve:Value} {R:RA}(h:Ru7 w B ve R) (hb:Below w.heap.size w w'):Ru7 w' B ve R:=⟨h.ents.below hb,h.ok,h.tabs.below hb⟩
theorem nd {R:RA}(h:ay R.es R.lv=true):∀ e ∈ R.es,e.runes.length≤1048576:=fun e he=>by
 have:=eg ((cg h).2.2 e he).1;omega
theorem Ru7.form {w:World} {B:Nat} {ve:Value} {R:RA}(h:Ru7 w B ve R):∃ a c,ve=.slice a R.es.length c:=by
 rcases h.ents.form with ⟨rfl,h0⟩|⟨_,_,rfl,_,_,_,_⟩
 .rw[h0];exact⟨_,_,rfl⟩
 .exact⟨_,_,rfl⟩
theorem gd {R:RA}(h:ay R.es R.lv=true){x:ByteArray}(hx:x.size≤200):okE R.es R.lv x=true:=by unfold okE;rw[Km hx,h];rfl
def jf (u:World) (p:Nat) (v:Value) (sh:Bool) (lv:Int):Prop:=u.heap[p]? = some (.cells #[v,.bool sh,.int .i64 lv] 56)
theorem jf.below {u u':World} {p:Nat} {v:Value} {sh:Bool} {lv:Int}(h:jf u p v sh lv) (hb:Below u.heap.size u u'):jf u' p v sh lv:=(hb.block p (Array.getElem?_eq_some_iff.1 h).1).trans h
theorem jf.facts {u:World} {p:Nat} {v:Value} {sh:Bool} {lv:Int}(h:jf u p v sh lv):p<u.heap.size∧u.cell? ⟨p,0,none⟩=some v∧u.cell? ⟨p,1,none⟩=some (.bool sh)∧u.cell? ⟨p,2,none⟩=some (.int .i64 lv) :=
 ⟨(Array.getElem?_eq_some_iff.1 h).1,cell_of_row _ _ 0 _ _ _ h,cell_of_row _ _ 1 _ _ _ h,cell_of_row _ _ 2 _ _ _ h⟩
theorem nw {w:World} {B:Nat} {ve:Value} {R:RA} {pb pl pf pn:Addr}(x:ByteArray) (hx:x.size≤1048576) (hR:Ru7 w B ve R) (hV:Ev7 w pb pl pf pn) :
  Calls prog 49 #[.agg #[ve,.bool R.sh,.int .i64 R.lv],.string x] w fun e w' =>
   e=.returned (if x.size≤60 then .tuple #[.string (bh R x),.nilIface] else .tuple #[.string ⟨#[]⟩,.iface 298 (.pointer (some pl))])∧Below w.heap.size w w':=by
 obtain⟨va,vc,rfl⟩:=hR.form;have bA:=(Below.refl w.heap.size w).alloc bR (.cells #[.slice va R.es.length vc,.bool R.sh,.int .i64 R.lv] 56);by_cases a0:x.size≤60
 .rw[if_pos a0]
  have a2:¬ (60:Int)<(x.size:Int):=by omega
  have K:=t7 (sh:=R.sh) (lv:=R.lv) x hx (hR.ents.below bA) (nd hR.ok) (hR.tabs.below bA);rw[gd hR.ok (by omega)]at K;have HK:Hid (qf R.es R.sh R.lv x=bh R x):=rfl;rw[HK.out]at K;have HB:Hid (Below w.heap.size w _):=bA;generalize bh R x=key at *;clear hR hV bA;go_enter func49,ntmps49;go_wp2_with fail;refine K.mono ?_;rintro e w2 ⟨rfl,b2⟩;have a1:Hid (Below w.heap.size w w2):=HB.out.trans (b2.mono HB.out.size);clear K b2;go_wp2;go_ret2;exact⟨rfl,a1.out⟩
 .rw[if_neg a0]
  have a2:(60:Int)<(x.size:Int):=by omega
  have hl:=(hV.below bA).long;have a3:=ag hl;have HB:Hid (Below w.heap.size w _):=bA;clear hR hV bA;go_enter func49,ntmps49;go_wp2;go_quiet (fail)
  go_wp2;go_ret2;exact⟨rfl,po HB.out _⟩
theorem Wr {w:World} {B:Nat} {ve:Value} {R:RA} {pb pl pf pn:Addr}(x:ByteArray) (hx:x.size≤1048576) (hR:Ru7 w B ve R) (hV:Ev7 w pb pl pf pn) :
  Calls prog 94 #[.agg #[ve,.bool R.sh,.int .i64 R.lv],.string x] w fun e w' =>
   e=.returned (if gn R x=true then .tuple #[.string (bh R x),.nilIface] else .tuple #[.string ⟨#[]⟩,.iface 298 (.pointer (some pl))])∧Below w.heap.size w w':=by
 obtain⟨va,vc,rfl⟩:=hR.form;have bA:=(Below.refl w.heap.size w).alloc bR (.cells #[.slice va R.es.length vc,.bool R.sh,.int .i64 R.lv] 56);have T:=nw x hx (hR.below bA) (hV.below bA);have HB:Hid (Below w.heap.size w _):=bA;have HV:Hid (Ev7 _ pb pl pf pn):=hV.below bA;by_cases a1:x.size≤60
 .rw[if_pos a1]at T
  by_cases h2:(bh R x).size≤200
  .have hf:gn R x=true:=by unfold gn;rw[decide_eq_true a1,decide_eq_true h2];rfl
   rw[if_pos hf];have a2:¬ (200:Int)<((bh R x).size:Int):=by omega
   clear hR hV bA hf;generalize bh R x=key at *;go_enter func94,ntmps94;go_wp2_with fail;refine T.mono ?_;rintro e w2 ⟨rfl,b2⟩;have a0:Hid (Below w.heap.size w w2):=HB.out.trans (b2.mono HB.out.size);clear T b2;go_wp2;go_ret2;exact⟨rfl,a0.out⟩
  .have hf:¬ gn R x=true:=by unfold gn;rw[decide_eq_false h2,Bool.and_false];simp
   rw[if_neg hf];have a2:(200:Int)<((bh R x).size:Int):=by omega
   clear hR hV bA hf;generalize bh R x=key at *;go_enter func94,ntmps94;go_wp2_with fail;refine T.mono ?_;rintro e w2 ⟨rfl,b2⟩;have a0:Hid (Below w.heap.size w w2):=HB.out.trans (b2.mono HB.out.size);have hl:=(HV.out.below b2).long;have a3:=ag hl;clear T b2;go_wp2;go_quiet (fail)
   go_wp2;go_ret2;exact⟨rfl,po a0.out _⟩
 .rw[if_neg a1]at T
  have hf:¬ gn R x=true:=by unfold gn;rw[decide_eq_false a1,Bool.false_and];simp
  rw[if_neg hf];clear hR hV bA hf;go_enter func94,ntmps94;go_wp2_with fail;refine T.mono ?_;rintro e w2 ⟨rfl,b2⟩;have a0:Hid (Below w.heap.size w w2):=HB.out.trans (b2.mono HB.out.size);clear T b2;go_wp2;go_ret2;exact⟨rfl,a0.out⟩
theorem ab8 {R:RA} {l:List Rw} {k:Nat} {x:Rw}(h:l[k]? = some x) (hk:bh R x.text≠x.key):iy R l=false:=by
 unfold iy;rw[List.all_eq_false];exact⟨x,List.mem_of_getElem? h,by simpa using hk⟩
theorem Zq {R:RA} {l:List Rw}(h:∀ (j:Nat) (x:Rw),j<l.length→l[j]? = some x→bh R x.text=x.key):iy R l=true:=by
 unfold iy;rw[List.all_eq_true];intro x hx;obtain⟨j,hj,rfl⟩:=List.getElem_of_mem hx;exact decide_eq_true (h j _ hj (List.getElem?_eq_getElem hj))
theorem Zn {w:World} {B:Nat} {ve:Value} {R:RA} {a:Option Addr} {c:Nat} {l:List Rw}(hl:l.length≤1048576) (hz:∀ x ∈ l,x.text.size≤200) (hR:Ru7 w B ve R) (hS:dd w a l) :
  Calls prog 87 #[.agg #[ve,.bool R.sh,.int .i64 R.lv],.slice a l.length c] w fun e w'=>e=.returned (.bool (iy R l))∧Below w.heap.size w w':=by
 obtain⟨va,vc,rfl⟩:=hR.form;have bA:=(Below.refl w.heap.size w).alloc bR (.cells #[.slice va R.es.length vc,.bool R.sh,.int .i64 R.lv] 56);obtain⟨W,hW⟩:∃ W,W=w.alloc (.cells #[.slice va R.es.length vc,.bool R.sh,.int .i64 R.lv] 56):=⟨_,rfl⟩
 have a4:jf W w.heap.size (.slice va R.es.length vc) R.sh R.lv:=by rw[hW];exact heap_alloc_new w _
 rw[<- hW]at bA;have aa:Hid (jf W w.heap.size (.slice va R.es.length vc) R.sh R.lv):=a4;have HR:Hid (Ru7 W B (.slice va R.es.length vc) R):=hR.below bA;have HS:Hid (∀ u,Below W.heap.size W u→dd u a l):=fun u hu=>(hS.below bA bR).below hu bR
 have HZ:Hid (∀ x ∈ l,x.text.size≤200):=hz;have HB:Hid (Below w.heap.size w W):=bA;have HW:Hid (W=w.alloc (.cells #[.slice va R.es.length vc,.bool R.sh,.int .i64 R.lv] 56)):=hW;clear hR hS hz bA a4 hW;go_enter func87,ntmps87;go_wp2_with fail;rw[<- HW.out];clear HW;go_loopw [11] (fun i wr=>∃ k:Nat,k≤l.length∧i=.int .i64 (k:Int)∧Hid (∀ (j:Nat) (x:Rw),j<k→l[j]? = some x→bh R x.text=x.key)∧Below W.heap.size W wr) (fun i _=>l.length-(intOf i).toNat)
 case atStart=>exact⟨0,Nat.zero_le _,rfl,fun j x hj=>by omega,bX⟩
 case round =>
  obtain⟨k,hk,rfl,HN,hb⟩:=hrel;by_cases ai:k<l.length
  .obtain⟨y,hy⟩:∃ y,l[k]? = some y:=by exact⟨_,List.getElem?_eq_getElem ai⟩
   have HY:Hid (l[k]? = some y):=hy;have ae:=HS.out wr hb;rcases ae with h|⟨b,o,rfl,hE⟩
   .rw[h]at hy;simp at hy
   obtain⟨e0,e1,e2⟩:=hE k y hy;have aj:=ag e0;have ak:(k:Int)<(l.length:Int):=by omega
   have b1:Below wr.heap.size wr (wr.alloc (.cells #[.string y.key,.string y.text,.string y.val] 37)):=bY _;have a3:=hb.trans (b1.mono hb.size);have a9:=HZ.out y (List.mem_of_getElem? hy);have K:=t7 (sh:=R.sh) (lv:=R.lv) y.text (by omega) (HR.out.below a3).ents (nd HR.out.ok) (HR.out.below a3).tabs;rw[gd HR.out.ok a9]at K;obtain⟨a8,p0,p1,p2⟩:=(aa.out.below a3).facts;have a1:Hid (di (wr.alloc (.cells #[.string y.key,.string y.text,.string y.val] 37)) wr.heap.size y):=ky wr y;have a0:Hid (Below W.heap.size W (wr.alloc (.cells #[.string y.key,.string y.text,.string y.val] 37))):=a3;have a6:Hid (qf R.es R.sh R.lv y.text=bh R y.text):=rfl;rw[a6.out]at K;clear hE hy hb b1 a3 a6 a9;by_cases a2:bh R y.text=y.key
   .have ac:Hid (∀ (j:Nat) (x:Rw),j<k+1→l[j]? = some x→bh R x.text=x.key):=fun j x hj hx=>by
     by_cases ah:j<k
     .exact HN.out j x ah hx
     .obtain rfl:j=k:=by omega
      rw[HY.out]at hx;obtain rfl:=Option.some.inj hx;exact a2
    rw[a2]at K;clear a2 HN;go_wp2_with fail;refine K.mono ?_;rintro e w2 ⟨rfl,b2⟩;obtain⟨d0,d1,d2⟩:=(a1.out.below b2).cells;have af:=(a1.out.below b2).lt;have a5:Hid (Below W.heap.size W w2):=a0.out.trans (b2.mono a0.out.size);clear K b2 e0 e1 e2 p0 p1 p2 a8 a1 a0;go_wp2;exact⟨⟨k+1,by omega,by go_num,ac.out,a5.out⟩,by simp[intOf];omega⟩
   .have a7:=ab8 HY.out a2
    have al:=xp a2;have ad:Hid (iy R l=false):=a7;clear a7 a2 HN;generalize bh R y.text=key at *;go_wp2_with fail;refine K.mono ?_;rintro e w2 ⟨rfl,b2⟩;obtain⟨d0,d1,d2⟩:=(a1.out.below b2).cells;have af:=(a1.out.below b2).lt;have a5:Hid (Below w.heap.size w w2):=HB.out.trans ((a0.out.trans (b2.mono a0.out.size)).mono HB.out.size);clear K b2 e0 e1 e2 p0 p1 p2 a8 a1 a0;go_wp2;go_ret;exact⟨by (rw[ad.out];try rfl),a5.out⟩
  .obtain rfl:k=l.length:=by omega
   have HY:Hid (iy R l=true):=Zq HN.out;have ab:Hid (Below w.heap.size w wr):=HB.out.trans (hb.mono HB.out.size);clear hb HN;go_wp2;go_ret;exact⟨by (rw[HY.out];try rfl),ab.out⟩
def kn7 (o:Dn):Int:=if o.put=true then 1 else 2
def dnC (o:Dn):List Value:=[.int .i64 (kn7 o),.string o.text,.string o.val]
def qx (l:List Dn):List Value:=l.flatMap dnC
theorem Mp (a b:List Dn):qx (a++b)=qx a++qx b:=by simp[qx]
theorem a85 (es:List Dn) (k i:Nat) (e:Dn) (h:es[k]? = some e) (hi:i<3):(qx es)[k*3+i]? = (dnC e)[i]?:=by
 induction es generalizing k with
 | nil=>simp at h
 | cons x es ih =>
  show (dnC x++qx es)[k*3+i]? = _
  cases k with
  | zero =>
   simp at h;subst h;rw[Nat.zero_mul,Nat.zero_add,List.getElem?_append_left (by show i<3;exact hi)]
  | succ k =>
   have h':es[k]? = some e:=by simpa using h
   rw[List.getElem?_append_right (by show 3≤_;omega)];have e4:(k+1)*3+i-(dnC x).length=k*3+i:=by show (k+1)*3+i-3=_;omega
   rw[e4];exact ih k h'
def Dos (w:World) (B:Nat) (v:Value) (l:List Dn):Prop:=w.ownsRow B 27 3 v l.length (qx l)
theorem Dos.form {w:World} {B:Nat} {v:Value} {es:List Dn}(h:Dos w B v es):(v=.slice none 0 0∧es=[])∨∃ g cap,v=.slice (some ⟨g,0,none⟩) es.length cap∧es.length≤cap∧cap≤maxLen:=by
 rcases h.2 with ⟨a,b⟩|⟨g,cap,cur,a,b,c,d,e,_⟩
 .exact .inl ⟨a,List.eq_nil_of_length_eq_zero b⟩
 .exact .inr ⟨g,cap,a,d,e⟩
theorem a87 {w:World} {B:Nat} {v:Value} {l:List Dn}(h:Dos w B v l):∃ a c,v=.slice a l.length c:=by
 rcases h.form with ⟨rfl,rfl⟩|⟨g,c,rfl,_,_⟩
 .exact⟨_,_,rfl⟩
 .exact⟨_,_,rfl⟩
theorem Dos.cells {w:World} {B g cap:Nat} {es:List Dn}(h:Dos w B (.slice (some ⟨g,0,none⟩) es.length cap) es) (k:Nat) (e:Dn) (hk:es[k]? = some e) :
  w.cell? ⟨g,k*3,none⟩=some (.int .i64 (kn7 e))∧w.cell? ⟨g,k*3+1,none⟩=some (.string e.text)∧w.cell? ⟨g,k*3+2,none⟩=some (.string e.val):=by
 have a1:=(List.getElem?_eq_some_iff.1 hk).1;have a0:∀ i,i<3→w.cell? ⟨g,k*3+i,none⟩=(dnC e)[i]?:=fun i hi=>by
  rw[World.ownsRow.cellAt h (k*3+i) (by omega),a85 es k i e hk hi]
 exact⟨a0 0 (by omega),a0 1 (by omega),a0 2 (by omega)⟩
theorem Dos.below {w w':World} {B:Nat} {v:Value} {es:List Dn}(h:Dos w B v es) (hb:Below w.heap.size w w'):Dos w' B v es :=
 World.ownsRow.kept h (row:=none) ⟨hb.os,hb.tape,hb.output,hb.size,fun k hk _=>hb.block k hk⟩ (by cases h:v.ownBlock <;> simp)
theorem am3 {W:World} {B:Nat} {v:Value} {l:List Dn} {x:Dn}(h:W.ownsRow B 27 3 v (l.length+1) (qx l++dnC x)):Dos W B v (l++[x]):=by
 unfold Dos;have e1:(l++[x]).length=l.length+1:=by simp
 have e2:qx (l++[x])=qx l++dnC x:=by rw[Mp];simp[qx]
 rw[e1,e2];exact h
theorem an4:(prog.info? 27).map (fun i=>(i.zero,i.size,i.bytes))=some (some (.agg #[.int .i64 0,.string ⟨#[]⟩,.string ⟨#[]⟩]),3,40):=by kernel_rfl
def gi (u:World) (p:Nat) (k:Int) (x y:ByteArray):Prop:=u.heap[p]? = some (.cells #[.int .i64 k,.string x,.string y] 27)
theorem gi.below {u u':World} {p:Nat} {k:Int} {x y:ByteArray}(h:gi u p k x y) (hb:Below u.heap.size u u'):gi u' p k x y:=(hb.block p (Array.getElem?_eq_some_iff.1 h).1).trans h
theorem gi.facts {u:World} {p:Nat} {k:Int} {x y:ByteArray}(h:gi u p k x y):p<u.heap.size∧u.cell? ⟨p,0,none⟩=some (.int .i64 k)∧u.cell? ⟨p,1,none⟩=some (.string x)∧u.cell? ⟨p,2,none⟩=some (.string y) :=
 ⟨(Array.getElem?_eq_some_iff.1 h).1,cell_of_row _ _ 0 _ _ _ h,cell_of_row _ _ 1 _ _ _ h,cell_of_row _ _ 2 _ _ _ h⟩
def af5:Option (Dn × Nat)→Value
 | none=>.tuple #[.agg #[.int .i64 0,.string ⟨#[]⟩,.string ⟨#[]⟩],.int .i64 0]
 | some (o,n)=>.tuple #[.agg #[.int .i64 (kn7 o),.string o.text,.string o.val],.int .i64 (n:Int)]
theorem ch {B:Nat} {w u:World}(h:Below B w u) (n:Nat):Below B w (u.drewN n):=⟨h.os,h.tape,h.output,h.size,h.block⟩
theorem St (s:ByteArray) (a:Nat):s.extract a a=⟨#[]⟩:=by
 apply ByteArray.ext
 simp
theorem Yj (w:World):(w.alloc (.cells #[.int .i64 0,.string ⟨#[]⟩,.string ⟨#[]⟩] 27)).cell? ⟨w.heap.size,0,none⟩=some (.int .i64 0)∧(w.alloc (.cells #[.int .i64 0,.string ⟨#[]⟩,.string ⟨#[]⟩] 27)).cell? ⟨w.heap.size,1,none⟩=some (.string ⟨#[]⟩)∧(w.alloc (.cells #[.int .i64 0,.string ⟨#[]⟩,.string ⟨#[]⟩] 27)).cell? ⟨w.heap.size,2,none⟩=some (.string ⟨#[]⟩)∧∀ j,(w.alloc (.cells #[.int .i64 0,.string ⟨#[]⟩,.string ⟨#[]⟩] 27)).frozen? ⟨w.heap.size,j,none⟩=false:=by
 have h:=heap_alloc_new w (.cells #[.int .i64 0,.string ⟨#[]⟩,.string ⟨#[]⟩] 27);exact⟨cell_of_row _ _ 0 _ _ _ h,cell_of_row _ _ 1 _ _ _ h,cell_of_row _ _ 2 _ _ _ h,fun j=>frozen_of_row _ _ j _ _ h⟩
theorem ap7 (s:ByteArray) (w:World) (h0:0<s.size) (hz:s.size≤1048576) :
  Calls prog 97 #[.string s] w fun e w'=>e=.returned (af5 (bq s))∧Below w.heap.size w w':=by
 have x0:∀ u:World,(Instr.index 9 (.string s) (.int .i64 0)).run prog u=.ok (.int .u8 (hd s 0:Int)) u:=d5 s 0 (by omega)
 have a2:Hid (∀ o:Obj,Below w.heap.size w (w.alloc o)):=fun o=>bY o
 obtain⟨d0,d1,d2,df⟩:=Yj w;have ad:w.heap.size<(w.alloc (.cells #[.int .i64 0,.string ⟨#[]⟩,.string ⟨#[]⟩] 27)).heap.size:=by simp
 have a3:¬ s.size=0:=by omega
 have m1:=jc s 1;have m2:=jc s 2;by_cases hq:hd s 0=112
 .rw[hq]at x0
  by_cases hh:s.size<3
  .have hR:bq s=none:=by unfold bq;rw[if_neg a3,if_pos hq,if_pos hh]
   have a7:(s.size:Int)<3:=by omega
   rw[hR];show Calls prog 97 #[.string s] w fun e w'=>e=.returned (.tuple #[.agg #[.int .i64 0,.string ⟨#[]⟩,.string ⟨#[]⟩],.int .i64 0])∧Below w.heap.size w w'
   clear hR;go_enter func97,ntmps97;go_wp2;refine bodyPost_ret (v:=.tuple #[.agg #[.int .i64 0,.string ⟨#[]⟩,.string ⟨#[]⟩],.int .i64 0]) ?_ rfl ⟨rfl,by repeat (first|exact a2.out _|refine Below.drew ?_|refine ch ?_ _)⟩;rw[results_cell_tmp rfl];go_simp
  have a7:¬ (s.size:Int)<3:=by omega
  have x1:∀ u:World,(Instr.index 9 (.string s) (.int .i64 1)).run prog u=.ok (.int .u8 (hd s 1:Int)) u:=d5 s 1 (by omega)
  have x2:∀ u:World,(Instr.index 9 (.string s) (.int .i64 2)).run prog u=.ok (.int .u8 (hd s 2:Int)) u:=d5 s 2 (by omega)
  have u1:IntKind.i64.wrap (hd s 1:Int)=(hd s 1:Int):=by rw[IntKind.wrap_i64];omega
  have u2:IntKind.i64.wrap (hd s 2:Int)=(hd s 2:Int):=by rw[IntKind.wrap_i64];omega
  by_cases he:s.size≤3+hd s 1+hd s 2
  .have hR:bq s=none:=by unfold bq;rw[if_neg a3,if_pos hq,if_neg hh,if_pos he]
   rw[hR];show Calls prog 97 #[.string s] w fun e w'=>e=.returned (.tuple #[.agg #[.int .i64 0,.string ⟨#[]⟩,.string ⟨#[]⟩],.int .i64 0])∧Below w.heap.size w w'
   clear hR;generalize hd s 1=a at *;generalize hd s 2=b at *;have a5:(s.size:Int)≤3+(a:Int)+(b:Int):=by omega
   have hR:True:=trivial;clear hR;go_enter func97,ntmps97;go_wp2;refine bodyPost_ret (v:=.tuple #[.agg #[.int .i64 0,.string ⟨#[]⟩,.string ⟨#[]⟩],.int .i64 0]) ?_ rfl ⟨rfl,by repeat (first|exact a2.out _|refine Below.drew ?_|refine ch ?_ _)⟩;rw[results_cell_tmp rfl];go_simp
  have xE:∀ u:World,(Instr.index 9 (.string s) (.int .i64 ((3+hd s 1+hd s 2:Nat):Int))).run prog u=.ok (.int .u8 (hd s (3+hd s 1+hd s 2):Int)) u:=d5 s _ (by omega)
  have me:=jc s (3+hd s 1+hd s 2);have aa:=s.size;by_cases a0:hd s (3+hd s 1+hd s 2)=46
  .have hR:bq s=some (⟨true,s.extract 3 (3+hd s 1),s.extract (3+hd s 1) (3+hd s 1+hd s 2)⟩,3+hd s 1+hd s 2+1):=by unfold bq;rw[if_neg a3,if_pos hq,if_neg hh,if_neg he,if_pos a0]
   rw[hR];show Calls prog 97 #[.string s] w fun e w'=>e=.returned (.tuple #[.agg #[.int .i64 1,.string (s.extract 3 (3+hd s 1)),.string (s.extract (3+hd s 1) (3+hd s 1+hd s 2))],.int .i64 ((3+hd s 1+hd s 2+1:Nat):Int)])∧Below w.heap.size w w'
   rw[a0]at xE;clear hR a0 me;generalize hd s 1=a at *;generalize hd s 2=b at *;have a5:¬ (s.size:Int)≤3+(a:Int)+(b:Int):=by omega
   have a1:((3+a+b:Nat):Int)=3+(a:Int)+(b:Int):=by omega
   have a6:((3+a+b+1:Nat):Int)=3+(a:Int)+(b:Int)+1:=by omega
   rw[a1]at xE;rw[a6];clear a1 a6;have ab:∀ u:World,(Instr.slice 9 (.string s) (some (.int .i64 3)) (some (.int .i64 (3+(a:Int)))) none).run prog u=.ok (.string (s.extract 3 (3+a))) u:=fun u=>m5 s _ _ _ _ (by omega) (by omega) (by omega) (by omega) u
   have ac:∀ u:World,(Instr.slice 9 (.string s) (some (.int .i64 (3+(a:Int)))) (some (.int .i64 (3+(a:Int)+(b:Int)))) none).run prog u=.ok (.string (s.extract (3+a) (3+a+b))) u:=fun u=>m5 s _ _ _ _ (by omega) (by omega) (by omega) (by omega) u
   generalize s.extract 3 (3+a)=e1 at *;generalize s.extract (3+a) (3+a+b)=e2 at *;go_enter func97,ntmps97;go_upto_region 15 with fail
   go_region
   all_goals
    go_wp2;refine bodyPost_ret (v:=.tuple #[.agg #[.int .i64 1,.string e1,.string e2],.int .i64 (3+(a:Int)+(b:Int)+1)]) ?_ rfl ⟨rfl,by repeat (first|exact a2.out _|refine Below.drew ?_|refine ch ?_ _)⟩;rw[results_cell_tmp rfl];go_simp
  .have hR:bq s=none:=by unfold bq;rw[if_neg a3,if_pos hq,if_neg hh,if_neg he,if_neg a0]
   rw[hR];show Calls prog 97 #[.string s] w fun e w'=>e=.returned (.tuple #[.agg #[.int .i64 0,.string ⟨#[]⟩,.string ⟨#[]⟩],.int .i64 0])∧Below w.heap.size w w'
   clear hR;generalize hd s (3+hd s 1+hd s 2)=c at *;generalize hd s 1=a at *;generalize hd s 2=b at *;have a5:¬ (s.size:Int)≤3+(a:Int)+(b:Int):=by omega
   have a1:((3+a+b:Nat):Int)=3+(a:Int)+(b:Int):=by omega
   rw[a1]at xE;have a8:¬ (c:Int)=46:=by omega
   have a9:((c:Int) != 46)=true:=by simp;omega
   clear a1 a0;have hR:True:=trivial;clear hR;go_enter func97,ntmps97;go_wp2;refine bodyPost_ret (v:=.tuple #[.agg #[.int .i64 0,.string ⟨#[]⟩,.string ⟨#[]⟩],.int .i64 0]) ?_ rfl ⟨rfl,by repeat (first|exact a2.out _|refine Below.drew ?_|refine ch ?_ _)⟩;rw[results_cell_tmp rfl];go_simp
 .by_cases a4:hd s 0=100
  .rw[a4]at x0
   by_cases hh:s.size<2
   .have hR:bq s=none:=by unfold bq;rw[if_neg a3,if_neg hq,if_pos a4,if_pos hh]
    have a7:(s.size:Int)<2:=by omega
    rw[hR];show Calls prog 97 #[.string s] w fun e w'=>e=.returned (.tuple #[.agg #[.int .i64 0,.string ⟨#[]⟩,.string ⟨#[]⟩],.int .i64 0])∧Below w.heap.size w w'
    clear hR;go_enter func97,ntmps97;go_wp2;refine bodyPost_ret (v:=.tuple #[.agg #[.int .i64 0,.string ⟨#[]⟩,.string ⟨#[]⟩],.int .i64 0]) ?_ rfl ⟨rfl,by repeat (first|exact a2.out _|refine Below.drew ?_|refine ch ?_ _)⟩;rw[results_cell_tmp rfl];go_simp
   have a7:¬ (s.size:Int)<2:=by omega
   have x1:∀ u:World,(Instr.index 9 (.string s) (.int .i64 1)).run prog u=.ok (.int .u8 (hd s 1:Int)) u:=d5 s 1 (by omega)
   have u1:IntKind.i64.wrap (hd s 1:Int)=(hd s 1:Int):=by rw[IntKind.wrap_i64];omega
   by_cases he:s.size≤2+hd s 1
   .have hR:bq s=none:=by unfold bq;rw[if_neg a3,if_neg hq,if_pos a4,if_neg hh,if_pos he]
    rw[hR];show Calls prog 97 #[.string s] w fun e w'=>e=.returned (.tuple #[.agg #[.int .i64 0,.string ⟨#[]⟩,.string ⟨#[]⟩],.int .i64 0])∧Below w.heap.size w w'
    clear hR;generalize hd s 1=a at *;have a5:(s.size:Int)≤2+(a:Int):=by omega
    have hR:True:=trivial;clear hR;go_enter func97,ntmps97;go_wp2;refine bodyPost_ret (v:=.tuple #[.agg #[.int .i64 0,.string ⟨#[]⟩,.string ⟨#[]⟩],.int .i64 0]) ?_ rfl ⟨rfl,by repeat (first|exact a2.out _|refine Below.drew ?_|refine ch ?_ _)⟩;rw[results_cell_tmp rfl];go_simp
   have xE:∀ u:World,(Instr.index 9 (.string s) (.int .i64 ((2+hd s 1:Nat):Int))).run prog u=.ok (.int .u8 (hd s (2+hd s 1):Int)) u:=d5 s _ (by omega)
   have me:=jc s (2+hd s 1);have aa:=s.size;by_cases a0:hd s (2+hd s 1)=46
   .have hR:bq s=some (⟨false,s.extract 2 (2+hd s 1),⟨#[]⟩⟩,2+hd s 1+1):=by unfold bq;rw[if_neg a3,if_neg hq,if_pos a4,if_neg hh,if_neg he,if_pos a0]
    rw[hR];show Calls prog 97 #[.string s] w fun e w'=>e=.returned (.tuple #[.agg #[.int .i64 2,.string (s.extract 2 (2+hd s 1)),.string ⟨#[]⟩],.int .i64 ((2+hd s 1+1:Nat):Int)])∧Below w.heap.size w w'
    rw[a0]at xE;clear hR a0 me;generalize hd s 1=a at *;have a5:¬ (s.size:Int)≤2+(a:Int):=by omega
    have a1:((2+a:Nat):Int)=2+(a:Int):=by omega
    have a6:((2+a+1:Nat):Int)=2+(a:Int)+1:=by omega
    rw[a1]at xE;rw[a6];clear a1 a6;have ab:∀ u:World,(Instr.slice 9 (.string s) (some (.int .i64 2)) (some (.int .i64 (2+(a:Int)))) none).run prog u=.ok (.string (s.extract 2 (2+a))) u:=fun u=>m5 s _ _ _ _ (by omega) (by omega) (by omega) (by omega) u
    have ac:∀ u:World,(Instr.slice 9 (.string s) (some (.int .i64 (2+(a:Int)))) (some (.int .i64 (2+(a:Int)))) none).run prog u=.ok (.string ⟨#[]⟩) u:=fun u=>by rw[m5 s _ _ (2+a) (2+a) (by omega) (by omega) (by omega) (by omega) u,St]
    generalize s.extract 2 (2+a)=e1 at *;go_enter func97,ntmps97;go_upto_region 15 with fail
    go_region
    all_goals
     go_wp2;refine bodyPost_ret (v:=.tuple #[.agg #[.int .i64 2,.string e1,.string ⟨#[]⟩],.int .i64 (2+(a:Int)+1)]) ?_ rfl ⟨rfl,by repeat (first|exact a2.out _|refine Below.drew ?_|refine ch ?_ _)⟩;rw[results_cell_tmp rfl];go_simp
   .have hR:bq s=none:=by unfold bq;rw[if_neg a3,if_neg hq,if_pos a4,if_neg hh,if_neg he,if_neg a0]
    rw[hR];show Calls prog 97 #[.string s] w fun e w'=>e=.returned (.tuple #[.agg #[.int .i64 0,.string ⟨#[]⟩,.string ⟨#[]⟩],.int .i64 0])∧Below w.heap.size w w'
    clear hR;generalize hd s (2+hd s 1)=c at *;generalize hd s 1=a at *;have a5:¬ (s.size:Int)≤2+(a:Int):=by omega
    have a1:((2+a:Nat):Int)=2+(a:Int):=by omega
    rw[a1]at xE;have a8:¬ (c:Int)=46:=by omega
    have a9:((c:Int) != 46)=true:=by simp;omega
    clear a1 a0;have hR:True:=trivial;clear hR;go_enter func97,ntmps97;go_wp2;refine bodyPost_ret (v:=.tuple #[.agg #[.int .i64 0,.string ⟨#[]⟩,.string ⟨#[]⟩],.int .i64 0]) ?_ rfl ⟨rfl,by repeat (first|exact a2.out _|refine Below.drew ?_|refine ch ?_ _)⟩;rw[results_cell_tmp rfl];go_simp
  .have hR:bq s=none:=by unfold bq;rw[if_neg a3,if_neg hq,if_neg a4]
   have n1:¬ (hd s 0:Int)=112:=by omega
   have n2:¬ (hd s 0:Int)=100:=by omega
   have n3:((hd s 0:Int) == 112)=false:=by simp;omega
   have n4:((hd s 0:Int) == 100)=false:=by simp;omega
   rw[hR];show Calls prog 97 #[.string s] w fun e w'=>e=.returned (.tuple #[.agg #[.int .i64 0,.string ⟨#[]⟩,.string ⟨#[]⟩],.int .i64 0])∧Below w.heap.size w w'
   clear hR;go_enter func97,ntmps97;go_wp2;refine bodyPost_ret (v:=.tuple #[.agg #[.int .i64 0,.string ⟨#[]⟩,.string ⟨#[]⟩],.int .i64 0]) ?_ rfl ⟨rfl,by repeat (first|exact a2.out _|refine Below.drew ?_|refine ch ?_ _)⟩;rw[results_cell_tmp rfl];go_simp
end Go.Proofs.YtjbmgghehdemdaaGreatDoor
