/- PBook6 -/
import Derived.Test.YtjbmgghehdemdaaGreatDoorMT11
import Derived.Deep.RegionLaw
import Derived.Deep.AppendLies
import Derived.Deep.MidRow
import Derived.Lib.AppendZeros
namespace Go.Proofs.YtjbmgghehdemdaaGreatDoor
set_option maxRecDepth 100000
set_option maxHeartbeats 16000000
open _root_.Go.Proofs.Tryz
def mu (l:List Rw):ByteArray:=(dh l (l.length-1)).key
def qb (l:List Rw):ByteArray:=(dh l 0).key
def ft (acc:List (List Rw)) (s:ByteArray):Bool :=
 decide (da s=0) && (match acc.getLast? with|none=>true|some l=>ltK (mu l) (qb (an s)))
def bkF:List (List Rw)→List ByteArray→Option (List (List Rw))
 | acc,[]=>some acc
 | acc,s::ss=>if ft acc s then bkF (acc++[an s]) ss else none
def ca (ss:List ByteArray):Option (List (List Rw)):=if ss.length≤40 then bkF [] ss else none
theorem Dm {acc:List (List Rw)} {ss:List ByteArray} {k:Nat} {s:ByteArray}(h:ss[k]? = some s) (ho:ft acc s=true):bkF acc (ss.drop k)=bkF (acc++[an s]) (ss.drop (k+1)):=by
 have hd:ss.drop k=s::ss.drop (k+1):=by
  obtain⟨hl,rfl⟩:=List.getElem?_eq_some_iff.1 h;exact List.drop_eq_getElem_cons hl
 rw[hd];simp[bkF,ho]
theorem Gx {acc:List (List Rw)} {ss:List ByteArray} {k:Nat} {s:ByteArray}(h:ss[k]? = some s) (ho:ft acc s=false):bkF acc (ss.drop k)=none:=by
 have hd:ss.drop k=s::ss.drop (k+1):=by
  obtain⟨hl,rfl⟩:=List.getElem?_eq_some_iff.1 h;exact List.drop_eq_getElem_cons hl
 rw[hd];simp[bkF,ho]
theorem vu {s:ByteArray}(h:da s=0):0<(an s).length:=by
 unfold da at h;unfold an
 cases h1:m9 s
 .rw[h1]at h;simp at h
 cases h2:lp s
 .rw[h1,h2]at h;simp at h
 rw[h1,h2]at h;simp only[if_true,Bool.and_self]at h ⊢
 cases h3:f4 s with
 | none=>rw[h3]at h;simp at h
 | some l =>
  unfold f4 at h3;split at h3
  .cases h3
  .rename_i l' _
   split at h3
   .rename_i hp
    obtain rfl:=Option.some.inj h3;unfold kl at hp;simp only[Bool.and_eq_true,Bool.not_eq_true',beq_eq_false_iff_ne,ne_eq]at hp;show 0<l'.length
    omega
   .cases h3
def dp (ss:List ByteArray) (k:Nat):List (List Rw):=(ss.take k).map an
theorem wu {ss:List ByteArray} {k:Nat}(h:k≤ss.length):(dp ss k).length=k:=by simp[dp,h]
theorem mg {ss:List ByteArray} {k:Nat} {s:ByteArray}(h:ss[k]? = some s):dp ss k++[an s]=dp ss (k+1):=by
 unfold dp;rw[List.take_add_one,h];simp
theorem ak7 {ss:List ByteArray} {k j:Nat} {s:ByteArray}(h:ss[j]? = some s) (hj:j<k):(dp ss k)[j]? = some (an s):=by
 unfold dp;rw[List.getElem?_map,List.getElem?_take_of_lt hj,h];rfl
theorem Ew {ss:List ByteArray} {s:ByteArray}:ft (dp ss 0) s=decide (da s=0):=by simp[ft,dp]
theorem Ev {ss:List ByteArray} {j:Nat} {y s:ByteArray}(h:ss[j]? = some y):ft (dp ss (j+1)) s=(decide (da s=0) && ltK (mu (an y)) (qb (an s))):=by
 unfold ft;rw[<- mg h];simp
theorem Sf (ss:List ByteArray) (acc:List (List Rw)):bkF acc (ss.drop ss.length)=some acc:=by simp[bkF]
theorem Ss {l:List Rw} {x:Rw}(h:l[l.length-1]? = some x):mu l=x.key:=by unfold mu dh;rw[h];rfl
theorem Se {l:List Rw} {x:Rw}(h:l[0]? = some x):qb l=x.key:=by unfold qb dh;rw[h];rfl
def inK (lo hi:ByteArray) (x:Rw):Bool:=!ltK x.key lo && ltK x.key hi
theorem Xz:∀ (ss:List ByteArray) (acc gs:List (List Rw)),bkF acc ss=some gs→gs=acc++ss.map an
 | [],acc,gs,h=>by simp[bkF]at h;simp[h]
 | s::ss,acc,gs,h=>by
  unfold bkF at h;split at h
  .rw[Xz ss _ gs h];simp
  .cases h
theorem Md {ss:List ByteArray} {gs:List (List Rw)}(h:ca ss=some gs):gs.length≤40∧∀ l ∈ gs,l.length≤60:=by
 unfold ca at h;split at h
 .rename_i hl
  rw[Xz ss [] gs h];refine⟨by simpa using hl,fun l hm=>?_⟩;simp at hm;obtain⟨s,_,rfl⟩:=hm;exact yj s
 .cases h

def bsF (l:List Rw) (key:ByteArray) (i j:Nat):Nat :=
 if i<j then
  if n7 (dh l ((i+j) / 2)).key key<0 then bsF l key ((i+j) / 2+1) j else bsF l key i ((i+j) / 2)
 else i
termination_by j-i
decreasing_by all_goals omega
theorem Y3 {l:List Rw} {key:ByteArray} {i j:Nat}(h:i<j) (hk:n7 (dh l ((i+j) / 2)).key key<0):bsF l key i j=bsF l key ((i+j) / 2+1) j:=by
 rw[bsF,if_pos h,if_pos hk]
theorem Mf {l:List Rw} {key:ByteArray} {i j:Nat}(h:i<j) (hk:¬ n7 (dh l ((i+j) / 2)).key key<0):bsF l key i j=bsF l key i ((i+j) / 2):=by
 rw[bsF,if_pos h,if_neg hk]
theorem Dp {l:List Rw} {key:ByteArray} {i j:Nat}(h:¬ i<j):bsF l key i j=i:=by rw[bsF,if_neg h]
def az (l:List Rw) (key:ByteArray):Nat:=bsF l key 0 l.length
def d9 (l:List Rw) (key:ByteArray):Bool:=decide (az l key<l.length) && decide (n7 (dh l (az l key)).key key=0)
theorem Mh:∀ a b:List UInt8,Lib.compareBytes a b<0↔Op.bytesLess a b=true
 | [],[]=>by simp[Lib.compareBytes,Op.bytesLess]
 | [],_::_=>by simp[Lib.compareBytes,Op.bytesLess]
 | _::_,[]=>by simp[Lib.compareBytes,Op.bytesLess]
 | x::a,y::b=>by
  have ih:=Mh a b;unfold Lib.compareBytes Op.bytesLess;by_cases h:x<y
  .simp[h]
  .by_cases h2:y<x
   .have h3:x≠y:=fun e=>by subst e;exact h h2
    simp[h,h2,h3]
   .have h3:x=y:=UInt8.le_antisymm (UInt8.not_lt.1 h2) (UInt8.not_lt.1 h)
    subst h3;simp only[h,if_false,ih,decide_false,beq_self_eq_true,Bool.true_and,Bool.false_or]
theorem Jn:∀ a b:List UInt8,Lib.compareBytes a b=0↔a=b
 | [],[]=>by simp[Lib.compareBytes]
 | [],_::_=>by simp[Lib.compareBytes]
 | _::_,[]=>by simp[Lib.compareBytes]
 | x::a,y::b=>by
  have ih:=Jn a b;unfold Lib.compareBytes;by_cases h:x<y
  .have h3:x≠y:=fun e=>by subst e;exact absurd h (UInt8.lt_irrefl _)
   simp[h,h3]
  .by_cases h2:y<x
   .have h3:x≠y:=fun e=>by subst e;exact absurd h2 (UInt8.lt_irrefl _)
    simp[h,h2,h3]
   .have h3:x=y:=UInt8.le_antisymm (UInt8.not_lt.1 h2) (UInt8.not_lt.1 h)
    subst h3;simp only[h,if_false,ih,List.cons.injEq,true_and]
theorem Fi (a b:ByteArray):n7 a b<0↔ltK a b=true:=by
 unfold n7 ltK;rw[ByteArray.toList_eq,ByteArray.toList_eq];exact Mh _ _
theorem ya (a b:ByteArray):n7 a b=0↔a=b:=by
 unfold n7;rw[Jn];constructor
 .intro h
  exact ByteArray.ext (Array.ext' h)
 .rintro rfl;rfl
theorem lf {a b c:ByteArray}(h1:ltK a b=true) (h2:ltK b c=true):ltK a c=true:=Hs _ _ _ h1 h2
theorem Dv (a:ByteArray):ltK a a=false:=Et _
theorem T1 {a b:ByteArray}(h1:ltK a b=false) (h2:a≠b):ltK b a=true:=by
 rcases Hr a.toList b.toList with h|h|h
 .unfold ltK at h1;rw[h1]at h;cases h
 .rw[ByteArray.toList_eq,ByteArray.toList_eq,beq_iff_eq]at h
  exact absurd (ByteArray.ext (Array.ext' h)) h2
 .exact h
def lm (l:List Rw):Prop:=∀ i j,i<j→j<l.length→ltK (dh l i).key (dh l j).key=true
theorem p9 {l:List Rw}(h:dm l=true):lm l:=by
 intro i j a0 hj;obtain⟨d,rfl⟩:∃ d,j=i+1+d:=⟨j-i-1,by omega⟩
 induction d with
 | zero =>
  have:=xj h hj;unfold lq at this;simpa using (Bool.and_eq_true _ _ ▸ this).2
 | succ d ih =>
  have h1:=ih (by omega) (by omega);have h2:=xj h hj;unfold lq at h2;have h3:ltK (dh l (i+1+d)).key (dh l (i+1+(d+1))).key=true:=by
   have:=(Bool.and_eq_true _ _ ▸ h2).2;simpa using this
  exact lf h1 h3
theorem mx {l:List Rw} {i:Nat} {x:Rw}(h:l[i]? = some x):dh l i=x:=by unfold dh;rw[h];rfl
theorem zy {l:List Rw} {i:Nat}(h:i<l.length):l[i]? = some (dh l i):=by unfold dh;rw[List.getElem?_eq_getElem h];rfl
theorem Mg {l:List Rw} {key:ByteArray}(hr:lm l):∀ (n i j:Nat),j-i≤n→i≤j→j≤l.length→(∀ p,p<i→ltK (dh l p).key key=true)→(∀ p,j≤p→p<l.length→ltK (dh l p).key key=false) →
  bsF l key i j≤l.length∧(∀ p,p<bsF l key i j→ltK (dh l p).key key=true)∧(∀ p,bsF l key i j≤p→p<l.length→ltK (dh l p).key key=false)
 | 0,i,j,hn,h1,h2,h3,h4=>by
  rw[Dp (by omega)];obtain rfl:i=j:=by omega
  exact⟨h2,h3,h4⟩
 | n+1,i,j,hn,h1,h2,h3,h4=>by
  by_cases c:i<j
  .by_cases d:n7 (dh l ((i+j) / 2)).key key<0
   .rw[Y3 c d]
    refine Mg hr n _ j (by omega) (by omega) h2 (fun p hp=>?_) h4;by_cases e:p=(i+j) / 2
    .rw[e];exact (Fi _ _).1 d
    .exact lf (hr p ((i+j) / 2) (by omega) (by omega)) ((Fi _ _).1 d)
   .rw[Mf c d]
    refine Mg hr n i _ (by omega) (by omega) (by omega) h3 (fun p hp hl=>?_);have d2:ltK (dh l ((i+j) / 2)).key key=false:=by
     cases e:ltK (dh l ((i+j) / 2)).key key
     .rfl
     .exact absurd ((Fi _ _).2 e) d
    by_cases e:p=(i+j) / 2
    .rw[e];exact d2
    .cases f:ltK (dh l p).key key
     .rfl
     .rw[lf (hr ((i+j) / 2) p (by omega) hl) f]at d2;cases d2
  .rw[Dp c]
   obtain rfl:i=j:=by omega
   exact⟨h2,h3,h4⟩
theorem n6 {l:List Rw}(key:ByteArray) (hr:lm l):az l key≤l.length∧(∀ p,p<az l key→ltK (dh l p).key key=true)∧(∀ p,az l key≤p→p<l.length→ltK (dh l p).key key=false) :=
 Mg hr l.length 0 l.length (by omega) (by omega) bR (fun p hp=>by omega) (fun p h1 h2=>by omega)
def ak2 (l:List Rw) (key:ByteArray):Rw:=(l.find? fun x=>decide (x.key=key)).getD rwZ
theorem py {l:List Rw} {key:ByteArray}(hr:lm l) (h:d9 l key=true):ak2 l key=dh l (az l key)∧az l key<l.length:=by
 obtain⟨h1,h2,h3⟩:=n6 key hr;unfold d9 at h;rw[Bool.and_eq_true,decide_eq_true_eq,decide_eq_true_eq,ya]at h;refine⟨?_,h.1⟩;unfold ak2;have:l.find? (fun x=>decide (x.key=key))=some (dh l (az l key)):=by
  rw[List.find?_eq_some_iff_getElem];refine⟨by simpa using h.2,az l key,h.1,?_,fun j hj=>?_⟩
  .have:=zy h.1
   rw[List.getElem?_eq_getElem h.1]at this;exact Option.some.inj this
  .have a0:j<l.length:=by omega
   have e:=zy a0;rw[List.getElem?_eq_getElem a0]at e;have e2:=Option.some.inj e;have h4:=h2 j hj;rw[e2];have:¬ (dh l j).key=key:=fun c=>by rw[c,Dv]at h4;cases h4
   simp[this]
 rw[this];rfl
theorem a26 {l:List Rw} {key:ByteArray}(hr:lm l) (h:d9 l key=false):∀ x ∈ l,x.key≠key:=by
 intro x hx c;obtain⟨i,hi⟩:=List.getElem?_of_mem hx;have a2:=(List.getElem?_eq_some_iff.1 hi).1;obtain⟨h1,h2,h3⟩:=n6 key hr;have a0:=mx hi;have hp:az l key≤i:=by
  apply Classical.byContradiction
  intro hn;have:=h2 i (by omega);rw[a0,c,Dv]at this
  cases this
 have a1:az l key<l.length:=by omega
 unfold d9 at h;rw[decide_eq_true a1,Bool.true_and,decide_eq_false_iff_not,ya]at h;have h4:=h3 _ bR a1;have h5:=T1 h4 h;by_cases e:az l key=i
 .rw[e,a0,c,Dv]at h5;cases h5
 .have h6:=hr (az l key) i (by omega) a2
  rw[a0,c]at h6;have h7:=lf h5 h6;rw[Dv]at h7;cases h7
theorem We {s:ByteArray}(h:da s=0):dm (an s)=true:=by
 unfold da at h;unfold an
 cases h1:m9 s
 .rw[h1]at h;simp at h
 cases h2:lp s
 .rw[h1,h2]at h;simp at h
 rw[h1,h2]at h;simp only[if_true,Bool.and_self]at h ⊢
 cases h3:f4 s with
 | none=>rw[h3]at h;simp at h
 | some l =>
  unfold f4 at h3;split at h3
  .cases h3
  .rename_i l' _
   split at h3
   .rename_i hp
    obtain rfl:=Option.some.inj h3;unfold kl at hp;rw[Bool.and_eq_true,Bool.and_eq_true]at hp;exact hp.1.2
   .cases h3
structure uk (gs:List (List Rw)):Prop where
 good:∀ g ∈ gs,dm g=true∧0<g.length
 rise:∀ (i:Nat) (a b:List Rw),gs[i]? = some a→gs[i+1]? = some b→ltK (mu a) (qb b)=true
theorem a19 {s:ByteArray}(h:da s=0):lnP (an s)≤300:=by
 unfold da at h;unfold an
 cases h1:m9 s
 .rw[h1]at h;simp at h
 cases h2:lp s
 .rw[h1,h2]at h;simp at h
 rw[h1,h2]at h;simp only[if_true,Bool.and_self]at h ⊢
 cases h3:f4 s with
 | none=>rw[h3]at h;simp at h
 | some l =>
  unfold f4 at h3;split at h3
  .cases h3
  .rename_i l' _
   split at h3
   .rename_i hp
    obtain rfl:=Option.some.inj h3;unfold kl at hp;rw[Bool.and_eq_true,decide_eq_true_eq]at hp;unfold m9 at h1;rw[Bool.and_eq_true,decide_eq_true_eq,decide_eq_true_eq]at h1;show lnP l'≤300
    have:(byT (et l')).size=lnP l':=qe _;rw[hp.2]at this;omega
   .cases h3
theorem Ma:∀ (ss:List ByteArray) (acc gs:List (List Rw)),bkF acc ss=some gs→uk acc→(∀ g ∈ acc,lnP g≤300)→uk gs∧∀ g ∈ gs,lnP g≤300
 | [],acc,gs,h,ha,hl=>by simp[bkF]at h;subst h;exact⟨ha,hl⟩
 | s::ss,acc,gs,h,ha,hl=>by
  unfold bkF at h;split at h
  .rename_i ho
   unfold ft at ho;rw[Bool.and_eq_true,decide_eq_true_eq]at ho;refine Ma ss _ gs h ⟨fun g hg=>?_,fun i a b h1 h2=>?_⟩ (fun g hg=>?_)
   .rcases List.mem_append.1 hg with hg|hg
    .exact ha.good g hg
    .simp at hg
     subst hg;exact⟨We ho.1,vu ho.1⟩
   .by_cases c:i+1<acc.length
    .rw[List.getElem?_append_left (by omega)]at h1
     rw[List.getElem?_append_left c]at h2;exact ha.rise i a b h1 h2
    .have hi:=(List.getElem?_eq_some_iff.1 h2).1
     simp at hi;have e:acc.length=i+1:=by omega
     rw[List.getElem?_append_left (by omega)]at h1;rw[List.getElem?_append_right (by omega),e]at h2;simp at h2;subst h2;have a0:acc.getLast? = some a:=by rw[List.getLast?_eq_getElem?,e];exact h1
     rw[a0]at ho;exact ho.2
   .rcases List.mem_append.1 hg with hg|hg
    .exact hl g hg
    .simp at hg
     subst hg;exact a19 ho.1
  .cases h
theorem uz {ss:List ByteArray} {gs:List (List Rw)}(h:ca ss=some gs):uk gs∧(∀ g ∈ gs,lnP g≤300)∧gs.length≤40:=by
 have a0:=(Md h).1;unfold ca at h;split at h
 .obtain⟨h1,h2⟩:=Ma ss [] gs h ⟨fun g hg=>by simp at hg,fun i a b h1=>by simp at h1⟩ (fun g hg=>by simp at hg)
  exact⟨h1,h2,a0⟩
 .cases h
theorem M9:∀ (gs acc:List (List Rw)),uk (acc++gs)→(∀ g ∈ gs,lnP g≤300)→bkF acc (gs.map pgB)=some (acc++gs)
 | [],acc,_,_=>by simp[bkF]
 | g::gs,acc,hb,hl=>by
  obtain⟨hg,a0⟩:=hb.good g (by simp);obtain⟨hc,hr⟩:=Kq a0 hg (hl g (by simp));have ho:ft acc (pgB g)=true:=by
   unfold ft;rw[hc,hr]
   cases h:acc.getLast? with
   | none=>rfl
   | some a =>
    have h0:acc.length≠0:=fun e=>by rw[List.eq_nil_of_length_eq_zero e]at h;simp at h
    rw[List.getLast?_eq_getElem?]at h;have:=hb.rise (acc.length-1) a g (by rw[List.getElem?_append_left (by omega)];exact h) (by rw[List.getElem?_append_right (by omega),show acc.length-1+1-acc.length=0 by omega];rfl);simpa using this
  show bkF acc (pgB g::gs.map pgB)=_
  unfold bkF;rw[ho,if_pos rfl,hr,M9 gs (acc++[g]) (by simpa using hb) (fun x hx=>hl x (by simp[hx]))];simp
theorem Mb:∀ (gs acc:List (List Rw)),uk (acc++gs)→(∃ g ∈ gs,¬ lnP g≤300)→bkF acc (gs.map pgB)=none
 | [],_,_,h=>by obtain⟨g,hg,_⟩:=h;simp at hg
 | g::gs,acc,hb,h=>by
  show bkF acc (pgB g::gs.map pgB)=none
  unfold bkF;by_cases hl:lnP g≤300
  .obtain⟨hg,hg0⟩:=hb.good g (by simp)
   obtain⟨_,hr⟩:=Kq hg0 hg hl;split
   .rw[hr]
    refine Mb gs (acc++[g]) (by simpa using hb) ?_;obtain⟨x,hx,a0⟩:=h;rcases List.mem_cons.1 hx with rfl|hx
    .exact absurd hl a0
    .exact⟨x,hx,a0⟩
   .rfl
  .rw[if_neg]
   unfold ft;rw[a13 hl];simp
theorem Tv {gs:List (List Rw)}(hb:uk gs):ca (gs.map pgB)=if gs.length≤40∧(∀ g ∈ gs,lnP g≤300) then some gs else none:=by
 unfold ca;rw[List.length_map];by_cases a0:gs.length≤40
 .rw[if_pos a0]
  by_cases hl:∀ g ∈ gs,lnP g≤300
  .rw[if_pos ⟨a0,hl⟩]
   have:=M9 gs [] (by simpa using hb) hl;simpa using this
  .rw[if_neg (fun c=>hl c.2)]
   refine Mb gs [] (by simpa using hb) ?_;apply Classical.byContradiction
   intro hn;exact hl fun g hg=>Classical.byContradiction fun c=>hn ⟨g,hg,c⟩
 .rw[if_neg a0,if_neg (fun c=>a0 c.1)]
theorem af7 {g:List Rw}(hg:lm g) (h0:0<g.length):qb g=mu g∨ltK (qb g) (mu g)=true:=by
 by_cases h:g.length=1
 .left
  unfold qb mu;rw[h]
 .right
  exact hg 0 (g.length-1) (by omega) (by omega)
theorem uk.ends {gs:List (List Rw)}(hb:uk gs):∀ (d i:Nat) (a b:List Rw),gs[i]? = some a→gs[i+1+d]? = some b→ltK (mu a) (mu b)=true
 | 0,i,a,b,h1,h2=>by
  have h3:=hb.rise i a b h1 h2;obtain⟨hg,h0⟩:=hb.good b (List.mem_of_getElem? h2);rcases af7 (p9 hg) h0 with e|e
  .rw[<- e];exact h3
  .exact lf h3 e
 | d+1,i,a,b,h1,h2=>by
  have a0:=(List.getElem?_eq_some_iff.1 h2).1;obtain⟨c,hc⟩:∃ c,gs[i+1+d]? = some c:=⟨_,List.getElem?_eq_getElem (by omega)⟩
  exact lf (hb.ends d i a c h1 hc) (hb.ends 0 (i+1+d) c b hc h2)
def PW (l:List Rw):Prop:=l.Pairwise fun a b=>ltK a.key b.key=true
theorem wo {l:List Rw}(h:lm l):PW l:=by
 unfold PW;rw[List.pairwise_iff_getElem];intro i j hi hj a0;have:=h i j a0 hj;unfold dh at this;rw[List.getElem?_eq_getElem hi,List.getElem?_eq_getElem hj]at this;exact this
theorem wl {l:List Rw}(h:PW l):lm l:=by
 intro i j a0 hj;unfold PW at h;rw[List.pairwise_iff_getElem]at h;have:=h i j (by omega) hj a0;unfold dh;rw[List.getElem?_eq_getElem (show i<l.length by omega),List.getElem?_eq_getElem hj];exact this
theorem oh {l:List Rw}:dm l=true↔l.length≤60∧(∀ x ∈ l,sz1 x=true)∧PW l:=by
 constructor
 .intro h
  refine⟨mz h,fun x hx=>?_,wo (p9 h)⟩;obtain⟨h0,h1,h2⟩:=N9 h x hx;exact Gd h0 h1 h2
 .rintro⟨h1,h2,h3⟩
  refine ue h1 fun i hi=>?_
  unfold lq;have hm:dh l i ∈ l:=List.mem_of_getElem? (zy hi);rw[h2 _ hm,Bool.true_and];by_cases e:i=0
  .simp[e]
  .rw[wl h3 (i-1) i (by omega) hi]
   simp
theorem ao5 {g:List Rw}(hg:lm g){x:Rw}(hx:x ∈ g):x.key=mu g∨ltK x.key (mu g)=true:=by
 obtain⟨i,hi⟩:=List.getElem?_of_mem hx;have hl:=(List.getElem?_eq_some_iff.1 hi).1;by_cases e:i=g.length-1
 .left
  unfold mu;rw[<- e,mx hi]
 .right
  have:=hg i (g.length-1) (by omega) (by omega);rw[mx hi]at this;exact this
theorem ao4 {g:List Rw}(hg:lm g){x:Rw}(hx:x ∈ g):qb g=x.key∨ltK (qb g) x.key=true:=by
 obtain⟨i,hi⟩:=List.getElem?_of_mem hx;have hl:=(List.getElem?_eq_some_iff.1 hi).1;by_cases e:i=0
 .left
  unfold qb;rw[<- e,mx hi]
 .right
  have:=hg 0 i (by omega) hl;rw[mx hi]at this;exact this
theorem av0 {a b c d:ByteArray}(h1:a=b∨ltK a b=true) (h2:ltK b c=true) (h3:c=d∨ltK c d=true):ltK a d=true:=by
 have h4:ltK a c=true:=by
  rcases h1 with rfl|h1
  .exact h2
  .exact lf h1 h2
 rcases h3 with rfl|h3
 .exact h4
 .exact lf h4 h3
theorem uk.pw {gs:List (List Rw)}(hb:uk gs):PW gs.flatten:=by
 unfold PW;rw[List.pairwise_flatten];refine⟨fun g hg=>wo (p9 (hb.good g hg).1),?_⟩;rw[List.pairwise_iff_getElem];intro i j hi hj a3 x hx y hy;have ha:gs[i]? = some gs[i]:=List.getElem?_eq_getElem hi;have hc:gs[j]? = some gs[j]:=List.getElem?_eq_getElem hj;obtain⟨a1,a2⟩:=hb.good gs[i] (List.getElem_mem hi);obtain⟨c1,c2⟩:=hb.good gs[j] (List.getElem_mem hj);have a0:ltK (mu gs[i]) (qb gs[j])=true:=by
  by_cases e:j=i+1
  .exact hb.rise i _ _ ha (by rw[<- e];exact hc)
  .obtain⟨m,hm⟩:∃ m,gs[j-1]? = some m:=⟨_,List.getElem?_eq_getElem (by omega)⟩
   have h1:=hb.ends (j-1-i-1) i _ m ha (by rw[show i+1+(j-1-i-1)=j-1 by omega];exact hm);have h2:=hb.rise (j-1) m _ hm (by rw[show j-1+1=j by omega];exact hc);exact lf h1 h2
 exact av0 (ao5 (p9 a1) hx) a0 (ao4 (p9 c1) hy)
theorem al8 {gs:List (List Rw)}(h1:∀ g ∈ gs,g.length≤60∧0<g.length∧∀ x ∈ g,sz1 x=true) (h2:PW gs.flatten):uk gs:=by
 unfold PW at h2;rw[List.pairwise_flatten]at h2;refine⟨fun g hg=>⟨oh.2 ⟨(h1 g hg).1,(h1 g hg).2.2,h2.1 g hg⟩,(h1 g hg).2.1⟩,fun i a b ha hb=>?_⟩;have hi:=(List.getElem?_eq_some_iff.1 ha);have hj:=(List.getElem?_eq_some_iff.1 hb);have:=List.pairwise_iff_getElem.1 h2.2 i (i+1) hi.1 hj.1 (by omega);rw[hi.2,hj.2]at this;have la:=(h1 a (List.mem_of_getElem? ha)).2.1;have lb:=(h1 b (List.mem_of_getElem? hb)).2.1;exact this (dh a (a.length-1)) (List.mem_of_getElem? (zy (by omega))) (dh b 0) (List.mem_of_getElem? (zy lb))
def gz (l:List Rw) (x:Rw):List Rw:=l.take (az l x.key)++([x]++l.drop (if d9 l x.key then az l x.key+1 else az l x.key))
theorem ai5 {l:List Rw} {key:ByteArray}(hr:lm l):∀ y ∈ l.take (az l key),ltK y.key key=true:=by
 intro y hy;obtain⟨i,hi⟩:=List.getElem?_of_mem hy;obtain⟨h1,h2,h3⟩:=n6 key hr;have a0:=(List.getElem?_eq_some_iff.1 hi).1;rw[List.length_take]at a0;rw[List.getElem?_take_of_lt (by omega)]at hi;have:=h2 i (by omega);rw[mx hi]at this;exact this
theorem Yn {l:List Rw} {key:ByteArray}(hr:lm l):∀ y ∈ l.drop (if d9 l key then az l key+1 else az l key),ltK key y.key=true:=by
 intro y hy;obtain⟨i,hi⟩:=List.getElem?_of_mem hy;obtain⟨h1,h2,h3⟩:=n6 key hr;rw[List.getElem?_drop]at hi;have a0:=(List.getElem?_eq_some_iff.1 hi).1
 cases ht:d9 l key
 .rw[ht]at hi a0
  simp only[Bool.false_eq_true,if_false]at hi a0;have h4:=h3 (az l key+i) (by omega) a0;rw[mx hi]at h4;exact T1 h4 (a26 hr ht y (List.mem_of_getElem? hi))
 .rw[ht]at hi a0
  simp only[if_true]at hi a0;unfold d9 at ht;rw[Bool.and_eq_true,decide_eq_true_eq,decide_eq_true_eq,ya]at ht;have h4:=hr (az l key) (az l key+1+i) (by omega) a0;rw[ht.2,mx hi]at h4;exact h4
theorem an5 {l:List Rw} {x:Rw}(hr:PW l):PW (gz l x):=by
 have h:=wl hr;have h1:=ai5 (key:=x.key) h;have h2:=Yn (key:=x.key) h;unfold gz PW;rw[List.pairwise_append,List.pairwise_append];refine⟨List.Pairwise.sublist (List.take_sublist _ _) hr,⟨List.pairwise_singleton _ _,List.Pairwise.sublist (List.drop_sublist _ _) hr,fun a ha b hb=>?_⟩,fun a ha b hb=>?_⟩
 .simp at ha
  subst ha;exact h2 b hb
 .rcases List.mem_append.1 hb with hb|hb
  .simp at hb
   subst hb;exact h1 a ha
  .exact lf (h1 a ha) (h2 b hb)
theorem Nl {l:List Rw} {x y:Rw}(h:y ∈ gz l x):y=x∨y ∈ l:=by
 unfold gz at h;rcases List.mem_append.1 h with h|h
 .exact .inr (List.mem_of_mem_take h)
 .rcases List.mem_append.1 h with h|h
  .simp at h;exact .inl h
  .exact .inr (List.mem_of_mem_drop h)
theorem Nk {l:List Rw} {x:Rw}(hr:lm l):(gz l x).length≤l.length+1:=by
 have:=(n6 x.key hr).1;unfold gz;simp only[List.length_append,List.length_take,List.length_drop,List.length_singleton];split <;> omega
open Go.RowKit
structure bj (w:World) (lo hi:Nat) (v:Value) (gs:List (List Rw)) (vs:List Value):Prop where
 top:hi≤w.heap.size
 len:vs.length=gs.length
 row:w.ownsRow lo 32 1 v gs.length vs
 rlt:∀ g,v.ownBlock=some g→g<hi
 ins:∀ (k:Nat) (g:List Rw),gs[k]? = some g→∃ x,vs[k]? = some x∧Rws w lo x g∧∀ b,x.ownBlock=some b→b<hi
 two:∀ (i j:Nat) (x y:Value),i≠j→vs[i]? = some x→vs[j]? = some y→x.ownBlock=none∨x.ownBlock≠y.ownBlock
theorem Kw {w w':World} {B e size n:Nat} {v:Value} {xs:List Value}(h:w.ownsRow B e size v n xs) (hb:∀ g,v.ownBlock=some g→w'.heap[g]? = w.heap[g]?):w'.ownsRow B e size v n xs:=by
 refine⟨h.1,?_⟩;rcases h.2 with h2|⟨g,cap,cur,h1,h2,h3,h4⟩
 .exact .inl h2
 .exact .inr ⟨g,cap,cur,h1,h2,by rw[hb g (by rw[h1];rfl)];exact h3,h4⟩
theorem bj.same {w w':World} {lo hi:Nat} {v:Value} {gs:List (List Rw)} {vs:List Value}(h:bj w lo hi v gs vs) (hs:w.heap.size≤w'.heap.size) (hb:∀ g,lo≤g→g<hi→w'.heap[g]? = w.heap[g]?):bj w' lo hi v gs vs:=by
 refine⟨Nat.le_trans h.top hs,h.len,Kw h.row (fun g hg=>hb g (World.ownsRow.lt h.row g hg).1 (h.rlt g hg)),h.rlt,fun k g hg=>?_,h.two⟩;obtain⟨x,hx,hI,hl⟩:=h.ins k g hg;exact⟨x,hx,Kw hI (fun b hb'=>hb b (World.ownsRow.lt hI b hb').1 (hl b hb')),hl⟩
theorem bj.below {w w':World} {lo hi:Nat} {v:Value} {gs:List (List Rw)} {vs:List Value}(h:bj w lo hi v gs vs) (hb:Below w.heap.size w w'):bj w' lo hi v gs vs :=
 h.same hb.size (fun g _ hg=>hb.block g (Nat.lt_of_lt_of_le hg h.top))
theorem bj.high {w:World} {lo hi a0:Nat} {v:Value} {gs:List (List Rw)} {vs:List Value}(h:bj w lo hi v gs vs) (h1:hi≤a0) (h2:a0≤w.heap.size):bj w lo a0 v gs vs :=
 ⟨h2,h.len,h.row,fun g hg=>Nat.lt_of_lt_of_le (h.rlt g hg) h1,fun k g hg=>by obtain⟨x,a,b,c⟩:=h.ins k g hg;exact⟨x,a,b,fun q hq=>Nat.lt_of_lt_of_le (c q hq) h1⟩,h.two⟩
theorem bj.nil (w:World) (lo:Nat):bj w lo w.heap.size (.slice none 0 0) [] [] :=
 ⟨bR,rfl,⟨rfl,.inl ⟨rfl,rfl⟩⟩,fun g hg=>(by cases hg),fun k g hg=>by simp at hg,fun i j x y _ hx=>by simp at hx⟩
theorem bj.apart {w:World} {lo hi:Nat} {v:Value} {gs:List (List Rw)} {vs:List Value}(h:bj w lo hi v gs vs){B n:Nat} {x:Value} {xs:List Value}(hx:w.ownsRow B 37 3 x n xs):v.ownBlock=none∨v.ownBlock≠x.ownBlock:=by
 rcases h.row.2 with ⟨rfl,_⟩|⟨g,cap,cur,rfl,_,hg,_⟩
 .exact .inl rfl
 .refine .inr fun c=>?_
  rcases hx.2 with ⟨rfl,_⟩|⟨g',a1,a2,rfl,_,a0,_⟩
  .cases c
  .have:g=g':=Option.some.inj c
   subst this;rw[hg]at a0;injection a0 with q1;injection q1 with _ q2;exact absurd q2 (by decide)
theorem bj.form {w:World} {lo hi:Nat} {v:Value} {gs:List (List Rw)} {vs:List Value}(h:bj w lo hi v gs vs):∃ a c,v=.slice a gs.length c∧∀ (k:Nat) (x:Value),vs[k]? = some x→∃ g,a=some ⟨g,0,none⟩∧lo≤g∧g<hi∧w.cell? ⟨g,k,none⟩=some x∧∀ j,w.frozen? ⟨g,j,none⟩=false:=by
 rcases h.row.2 with ⟨rfl,hn⟩|⟨g,cap,cur,rfl,hB,hg,h1,h2,h3,h4⟩
 .have:gs=[]:=List.eq_nil_of_length_eq_zero hn
  subst this;exact⟨_,_,rfl,fun k x hx=>by have:=(List.getElem?_eq_some_iff.1 hx).1;rw[h.len]at this;simp at this⟩
 .refine⟨_,_,rfl,fun k x hx=>⟨g,rfl,hB,h.rlt g rfl,?_,fun j=>by simp[World.frozen?,hg]⟩⟩
  have hk:=(List.getElem?_eq_some_iff.1 hx).1;rw[h.len]at hk;have hc:cur[k]? = some x:=by
   rw[<- Array.getElem?_toList];rw[<- h4,List.getElem?_take_of_lt (by omega)]at hx;exact hx
  simp[World.cell?,hg,hc]
theorem Ax {v x:Value}(h:v.ownBlock=none∨v.ownBlock≠x.ownBlock):x.ownBlock=none∨x.ownBlock≠v.ownBlock:=by
 cases c:x.ownBlock with
 | none=>exact .inl rfl
 | some j =>
  refine .inr fun e=>?_
  rcases h with h|h
  .rw[h]at e;cases e
  .exact h (by rw[c];exact e.symm)
theorem bj.push {w u u':World} {lo hi g cap:Nat} {v x0:Value} {l0:List Rw} {gs:List (List Rw)} {vs:List Value}(h:bj w lo hi v gs vs) (a5:lo≤w.heap.size) (hu:Below w.heap.size w u) (h0:Rws u w.heap.size x0 l0) (hg:u.grownBy u' v.ownBlock) (ho:u'.ownsRow lo 32 1 (.slice (some ⟨g,0,none⟩) (gs.length+1) cap) (gs.length+1) (vs++[x0])) :
  bj u' lo u'.heap.size (.slice (some ⟨g,0,none⟩) (gs.length+1) cap) (gs++[l0]) (vs++[x0]):=by
 have h2:=h.below hu;have a0:∀ b,x0.ownBlock=some b→w.heap.size≤b:=fun b hb=>(World.ownsRow.lt h0 b hb).1
 have a3:Rws u' lo x0 l0:=by
  have q:=World.ownsRow.kept h0 hg (Ax (h2.apart h0));refine⟨q.1,?_⟩;rcases q.2 with q2|⟨g,cap,cur,a,b,c⟩
  .exact .inl q2
  .exact .inr ⟨g,cap,cur,a,Nat.le_trans a5 b,c⟩
 have a1:∀ (i:Nat) (y:Value),vs[i]? = some y→∀ b,y.ownBlock=some b→b<w.heap.size:=fun i y hy b hb=>by
  have a4:=(List.getElem?_eq_some_iff.1 hy).1;obtain⟨q,hq⟩:∃ q,gs[i]? = some q:=⟨_,List.getElem?_eq_getElem (by rw[<- h.len];exact a4)⟩
  obtain⟨z,hz,_,hl⟩:=h.ins i q hq;rw[hy]at hz;obtain rfl:=Option.some.inj hz;exact Nat.lt_of_lt_of_le (hl b hb) h.top
 refine⟨bR,by simp[h.len],by simpa using ho,fun b hb=>(World.ownsRow.lt ho b hb).2,fun k q hq=>?_,fun i j x y hij hx hy=>?_⟩
 .by_cases c:k<gs.length
  .rw[List.getElem?_append_left c]at hq
   obtain⟨x,hx,hI,_⟩:=h2.ins k q hq;have a2:=World.ownsRow.kept hI hg (Ax (h2.apart hI));exact⟨x,by rw[List.getElem?_append_left (by rw[h.len];exact c)];exact hx,a2,fun b hb=>(World.ownsRow.lt a2 b hb).2⟩
  .have hk:=(List.getElem?_eq_some_iff.1 hq).1
   have:k=gs.length:=by simp at hk;omega
   subst this;simp at hq;subst hq;exact⟨x0,by rw[<- h.len];simp,a3,fun b hb=>(World.ownsRow.lt a3 b hb).2⟩
 .have lx:=(List.getElem?_eq_some_iff.1 hx).1
  have ly:=(List.getElem?_eq_some_iff.1 hy).1;simp at lx ly;by_cases ci:i<vs.length
  .rw[List.getElem?_append_left ci]at hx
   by_cases cj:j<vs.length
   .rw[List.getElem?_append_left cj]at hy
    exact h.two i j x y hij hx hy
   .have:j=vs.length:=by omega
    subst this;simp at hy;subst hy
    cases e:x.ownBlock with
    | none=>exact .inl rfl
    | some b =>
     refine .inr fun c=>?_
     have h3:=a1 i x hx b e;have h4:=a0 b c.symm;omega
  .have:i=vs.length:=by omega
   subst this;simp at hx;subst hx;rw[List.getElem?_append_left (by omega)]at hy
   cases e:x0.ownBlock with
   | none=>exact .inl rfl
   | some b =>
    refine .inr fun c=>?_
    have h3:=a1 j y hy b c.symm;have h4:=a0 b e;omega
theorem bz {W:World} {B:Nat} {v:Value} {l:List Rw}(h:Rws W B v l):∃ a c,v=.slice a l.length c:=by
 rcases h.form with ⟨rfl,rfl⟩|⟨g,c,rfl,_,_⟩
 .exact⟨_,_,rfl⟩
 .exact⟨_,_,rfl⟩
theorem T8 {W:World} {B:Nat} {v:Value} {l:List Rw} {x:Rw}(h:W.ownsRow B 37 3 v (l.length+1) (go l++rwC x)):Rws W B v (l++[x]):=by
 unfold Rws;have e1:(l++[x]).length=l.length+1:=by simp
 have e2:go (l++[x])=go l++rwC x:=by rw[xv];simp[go]
 rw[e1,e2];exact h
theorem C6 (w:World) (n:Nat) (x y z:Value) (ty:TypeId) (hn:n=w.heap.size):∀ j u,[x,y,z][j]? = some u→(w.alloc (.cells #[x,y,z] ty)).cell? ((⟨n,0,none⟩:Addr).add j)=some u:=by
 subst hn;intro j u hj;match j,hj with
 | 0,hj=>simp at hj;subst hj;simp[Addr.add]
 | 1,hj=>simp at hj;subst hj;simp[Addr.add]
 | 2,hj=>simp at hj;subst hj;simp[Addr.add]
 | j+3,hj=>simp at hj
theorem Qv {u u' w':World} {r:Option Nat}(h:u.grownBy w' r) (h1:u.heap=u'.heap) (h2:u.os=u'.os) (h3:u.tape=u'.tape) (h4:u.output=u'.output):u'.grownBy w' r :=
 ⟨h.os.trans h2,h.tape.trans h3,h.output.trans h4,by rw[<- h1];exact h.size,fun k hk hne=>by rw[<- h1]at hk ⊢;exact h.block k hk hne⟩
theorem ew {W:World} {B c:Nat} {a:Option Addr} {l:List Rw}(h:Rws W B (.slice a l.length c) l):dd W a l:=by
 rcases h.form with ⟨_,h0⟩|⟨g,cap,hv,_,_⟩
 .exact .inl h0
 .have e:=(Value.slice.inj hv).1
  subst e;exact h.sl
theorem xp {a b:ByteArray}(h:¬ a=b):(a.toList == b.toList)=false:=by
 rw[beq_eq_false_iff_ne];intro e;rw[ByteArray.toList_eq,ByteArray.toList_eq]at e;exact h (ByteArray.ext (Array.toList_inj.1 e))
theorem Oy {w:World} {B:Nat} {v:Value} {l:List Rw}(h:Rws w B v l) (hl:0<l.length):∃ g c,v=.slice (some ⟨g,0,none⟩) l.length c∧∀ (k:Nat) (e:Rw),l[k]? = some e→w.cell? ⟨g,k*3,none⟩=some (.string e.key):=by
 rcases h.form with ⟨rfl,rfl⟩|⟨g,c,rfl,_,_⟩
 .simp at hl
 .exact⟨g,c,rfl,fun k e hk=>(h.cells k e hk).1⟩
theorem Fu:(prog.info? 32).map (fun i=>(i.zero,i.size,i.bytes))=some (some (.slice none 0 0),1,24):=by kernel_rfl
theorem bj.store {w u:World} {lo hi g c k:Nat} {x0:Value} {l0:List Rw} {gs:List (List Rw)} {vs:List Value}(h:bj w lo hi (.slice (some ⟨g,0,none⟩) gs.length c) gs vs) (a6:lo≤w.heap.size) (hu:Below w.heap.size w u) (h0:Rws u w.heap.size x0 l0) (hk:k<gs.length) :
  bj (u.setCell ⟨g,k,none⟩ x0) lo (u.setCell ⟨g,k,none⟩ x0).heap.size (.slice (some ⟨g,0,none⟩) gs.length c) (gs.set k l0) (vs.set k x0):=by
 have h2:=h.below hu;have s:=World.ownsRow.stored h2.row k x0;have hg:u.grownBy (u.setCell ⟨g,k,none⟩ x0) (Value.slice (some ⟨g,0,none⟩) gs.length c).ownBlock:=s.2;have a1:∀ (i:Nat) (y:Value),vs[i]? = some y→∀ b,y.ownBlock=some b→b<w.heap.size:=fun i y hy b hb=>by
  have a5:=(List.getElem?_eq_some_iff.1 hy).1;obtain⟨q,hq⟩:∃ q,gs[i]? = some q:=⟨_,List.getElem?_eq_getElem (by rw[<- h.len];exact a5)⟩
  obtain⟨z,hz,_,hl⟩:=h.ins i q hq;rw[hy]at hz;obtain rfl:=Option.some.inj hz;exact Nat.lt_of_lt_of_le (hl b hb) h.top
 have a0:∀ b,x0.ownBlock=some b→w.heap.size≤b:=fun b hb=>(World.ownsRow.lt h0 b hb).1
 have a4:Rws (u.setCell ⟨g,k,none⟩ x0) lo x0 l0:=by
  have q:=World.ownsRow.kept h0 hg (Ax (h2.apart h0));refine⟨q.1,?_⟩;rcases q.2 with q2|⟨g,cap,cur,a,b,c⟩
  .exact .inl q2
  .exact .inr ⟨g,cap,cur,a,Nat.le_trans a6 b,c⟩
 have a2:k<vs.length:=by rw[h.len];exact hk
 refine⟨bR,by simp[h.len],by rw[List.length_set];exact s.1,fun b hb=>(World.ownsRow.lt s.1 b hb).2,fun j q hq=>?_,fun i j x y hij hx hy=>?_⟩
 .by_cases e:k=j
  .subst e
   rw[List.getElem?_set_self hk]at hq;obtain rfl:=Option.some.inj hq;exact⟨x0,List.getElem?_set_self a2,a4,fun b hb=>(World.ownsRow.lt a4 b hb).2⟩
  .rw[List.getElem?_set_ne e]at hq
   obtain⟨y,hy,hJ,_⟩:=h2.ins j q hq;have a3:=World.ownsRow.kept hJ hg (Ax (h2.apart hJ));exact⟨y,by rw[List.getElem?_set_ne e];exact hy,a3,fun b hb=>(World.ownsRow.lt a3 b hb).2⟩
 .by_cases ei:k=i
  .subst ei
   rw[List.getElem?_set_self a2]at hx;obtain rfl:=Option.some.inj hx;rw[List.getElem?_set_ne hij]at hy
   cases e:x0.ownBlock with
   | none=>exact .inl rfl
   | some b =>
    refine .inr fun c=>?_
    have h3:=a1 j y hy b c.symm;have h4:=a0 b e;omega
  .rw[List.getElem?_set_ne ei]at hx
   by_cases ej:k=j
   .subst ej
    rw[List.getElem?_set_self a2]at hy;obtain rfl:=Option.some.inj hy
    cases e:x.ownBlock with
    | none=>exact .inl rfl
    | some b =>
     refine .inr fun c=>?_
     have h3:=a1 i x hx b e;have h4:=a0 b c.symm;omega
   .rw[List.getElem?_set_ne ej]at hy
    exact h.two i j x y hij hx hy
def BkV (w:World) (v:Value) (gs:List (List Rw)):Prop :=
 ∃ a c,v=.slice a gs.length c∧∀ (k:Nat) (g:List Rw),gs[k]? = some g→∃ b o ax cx,a=some ⟨b,o,none⟩∧w.cell? ⟨b,o+k,none⟩=some (.slice ax g.length cx)∧dd w ax g
theorem BkV.below {w w':World} {B:Nat} {v:Value} {gs:List (List Rw)}(h:BkV w v gs) (hb:Below B w w') (hB:w.heap.size≤B):BkV w' v gs:=by
 obtain⟨a,c,rfl,h⟩:=h;refine⟨a,c,rfl,fun k g hg=>?_⟩;obtain⟨b,o,ax,cx,h1,h2,h3⟩:=h k g hg;exact⟨b,o,ax,cx,h1,(hb.cell (Nat.lt_of_lt_of_le (ag h2) hB)).trans h2,h3.below hb hB⟩
theorem bj.bk {w:World} {lo hi:Nat} {v:Value} {gs:List (List Rw)} {vs:List Value}(h:bj w lo hi v gs vs):BkV w v gs:=by
 obtain⟨a,c,rfl,q⟩:=h.form;refine⟨a,c,rfl,fun k g hg=>?_⟩;obtain⟨x,hx,hI,_⟩:=h.ins k g hg;obtain⟨b,h1,_,_,h2,_⟩:=q k x hx;obtain⟨ax,cx,rfl⟩:=bz hI;exact⟨b,0,ax,cx,h1,by simpa using h2,ew hI⟩
theorem ae2 (g:List Rw):(pbT g).size≤300:=by
 unfold pbT;split
 .rename_i h
  unfold ko at h;simp only[Bool.and_eq_true,decide_eq_true_eq]at h;rw[qe];exact h.2
 .exact Nat.zero_le _
theorem av7 {g:List Rw}(h:ko g=true):pbT g=pgB g:=by unfold pbT pgB;rw[if_pos h]
def qz (l:List Rw) (key:ByteArray):List Rw:=l.take (az l key)++l.drop (az l key+1)
theorem Yl {l:List Rw} {key:ByteArray}(hr:lm l) (ht:d9 l key=true):(qz l key).length=l.length-1:=by
 have hp:=(py hr ht).2;unfold qz;rw[List.length_append,List.length_take,List.length_drop];omega
theorem Ym (l:List Rw) (key:ByteArray):(qz l key).Sublist l:=by
 unfold qz;conv=>rhs;rw[<- List.take_append_drop (az l key) l]
 refine List.Sublist.append (List.Sublist.refl _) ?_;rw[show l.drop (az l key+1)=(l.drop (az l key)).drop 1 by rw[List.drop_drop]];exact List.drop_sublist _ _
theorem xu {P:Program}(w:World) (t ty e:TypeId) (i:TypeInfo) (ht:P.underlying t=some (.slice e)) (hi:P.info? e=some i) (b:Option Addr) (n c c':Nat) (a0:n≤c) :
  (Builtin.append_ #[t,t] ty #[.slice b n c,.slice none 0 c']).run P w=.ok (.slice b n c) w:=by
 cases b <;> simp[Builtin.append_,run_underlying ht,sizeOf,typeInfo,hi,a0,storeCells,Builtin.lenOf,Builtin.firstCells]
theorem Ft:(prog.info? 37).map (fun i=>(i.zero,i.size,i.bytes))=some (some (.agg #[.string ⟨#[]⟩,.string ⟨#[]⟩,.string ⟨#[]⟩]),3,48):=by kernel_rfl
def SlV (w:World) (v:Value) (l:List Rw):Prop:=∃ a c,v=.slice a l.length c∧dd w a l
theorem SlV.below {w w':World} {B:Nat} {v:Value} {l:List Rw}(h:SlV w v l) (hb:Below B w w') (hB:w.heap.size≤B):SlV w' v l:=by
 obtain⟨a,c,rfl,h⟩:=h;exact⟨a,c,rfl,h.below hb hB⟩
theorem Rws.slV {w:World} {B:Nat} {v:Value} {l:List Rw}(h:Rws w B v l):SlV w v l:=by
 obtain⟨a,c,rfl⟩:=bz h;exact⟨a,c,rfl,ew h⟩
theorem a34 (l:List Rw):∀ v ∈ go l,v.oneCell'=true:=by
 intro v hv;simp only[go,List.mem_flatMap]at hv;obtain⟨x,_,hx⟩:=hv;simp[rwC]at hx
 rcases hx with rfl|rfl|rfl <;> rfl
theorem Gc {w:World} {b o:Nat} {l:List Rw}(h:∀ (k:Nat) (e:Rw),l[k]? = some e→w.cell? ⟨b,o+k*3,none⟩=some (.string e.key)∧w.cell? ⟨b,o+k*3+1,none⟩=some (.string e.text)∧w.cell? ⟨b,o+k*3+2,none⟩=some (.string e.val)) :
  ∀ j v,(go l)[j]? = some v→w.cell? ((⟨b,o,none⟩:Addr).add j)=some v:=by
 intro j v hv;have a0:(⟨b,o,none⟩:Addr).add j=⟨b,o+j,none⟩:=by unfold Addr.add;split <;> simp_all
 rw[a0];have hj:=(List.getElem?_eq_some_iff.1 hv).1;rw[yk]at hj;obtain⟨k,i,rfl,hi⟩:∃ k i,j=k*3+i∧i<3:=⟨j / 3,j % 3,by omega,by omega⟩
 obtain⟨e,he⟩:∃ e,l[k]? = some e:=⟨_,List.getElem?_eq_getElem (by omega)⟩
 rw[Ox l k i e he hi]at hv;obtain⟨h0,h1,h2⟩:=h k e he;rw[show o+(k*3+i)=o+k*3+i by omega];match i,hi with
 | 0,_=>simp[rwC]at hv;subst hv;exact h0
 | 1,_=>simp[rwC]at hv;subst hv;exact h1
 | 2,_=>simp[rwC]at hv;subst hv;exact h2
theorem Bu {w:World} {o:Oper} {a:Act} {K:Act→World→Prop} {Q:Exit→Act→World→Prop}(s x:Operand)
  (ho:o.op=.call { callee:=.builtin .append,args:=#[s,x],argTypes:=#[32,32] }) (B:Nat) (v vx:Value) (l l':List Rw) (hs:a.eval s=v) (hx:a.eval x=vx) (hI:Rws w B v l) (hR:SlV w vx l')
  (a6:l.length+l'.length≤1048576) (a0:B≤w.heap.size) (h:∀ v' w',Rws w' B v' (l++l')→w.grownBy w' v.ownBlock→K (a.put o.dst v') w'):Oper.wp prog o a w K Q:=by
 obtain⟨i0,hi,a4,a2,a3⟩:=info_parts Ft;have app:∀ (ad:Addr) (c:Nat),vx=.slice (some ad) l'.length c→(∀ j u,(go l')[j]? = some u→w.cell? (ad.add j)=some u)→Oper.wp prog o a w K Q:=fun ad c hv hc=>by
  refine wp_append_own w s x 32 ho B 37 i0 _ 3 48 underlying32 hi a4 a2 a3 rfl (by decide) v l.length (go l) hs hI ad l'.length c (go l') (hx.trans hv) (yk l') hc (a34 l') (by unfold maxLen;omega) (by omega) a0 fun v' w' h1 h2 _=>h v' w' ?_ h2
  unfold Rws;rw[List.length_append,xv];exact h1
 obtain⟨ax,cx,hv,hR⟩:=hR;rcases hR with rfl|⟨b,a5,rfl,hE⟩
 .cases ax with
  | none =>
   obtain⟨b,n,c',rfl,a1⟩:∃ b n c,v=.slice b n c∧n≤c:=by
    rcases hI.form with ⟨rfl,rfl⟩|⟨g,cap,rfl,h1,_⟩
    .exact⟨_,_,_,rfl,bR⟩
    .exact⟨_,_,_,rfl,h1⟩
   refine Go.Lib.wp_append_run w s x 32 32 ho _ _ hs (hx.trans hv) _ _ (xu w _ _ _ i0 underlying32 hi b n c' cx a1) ?_;refine h _ _ ?_ ⟨rfl,rfl,rfl,bR,fun _ _ _=>rfl⟩;rw[List.append_nil];exact hI
  | some ad=>exact app ad cx hv (fun j u hj=>by simp[go]at hj)
 .exact app ⟨b,a5,none⟩ cx hv (Gc hE)
theorem ef {w:World} {a1:Array Oper} {rest:List Oper} {o:Oper} {a:Act} {Q:Exit→Act→World→Prop}(a3:o.guard=none) (s x:Operand)
  (ho:o.op=.call { callee:=.builtin .append,args:=#[s,x],argTypes:=#[32,32] }) (B:Nat) (v vx:Value) (l l':List Rw) (hs:a.eval s=v) (hx:a.eval x=vx) (hI:Rws w B v l) (hR:SlV w vx l')
  (a2:l.length+l'.length≤1048576) (a0:B≤w.heap.size) (h:∀ v' w',Rws w' B v' (l++l')→w.grownBy w' v.ownBlock→wpList prog a1 Q rest (a.put o.dst v') w'):wpList prog a1 Q (o::rest) a w :=
 wpList_plain a3 fun _ hK=>Bu s x ho B v vx l l' hs hx hI hR a2 a0 fun v' w' h1 h2=>hK _ _ (h v' w' h1 h2)
theorem dz {w:World} {a3:Array Oper} {o:Oper} {a:Act} {K:Act→World→Prop} {Q:Exit→Act→World→Prop} {E:Prop}(a2:o.guard=none) (s x:Operand)
  (ho:o.op=.call { callee:=.builtin .append,args:=#[s,x],argTypes:=#[32,32] }) (B:Nat) (v vx:Value) (l l':List Rw) (hs:a.eval s=v) (hx:a.eval x=vx) (hI:Rws w B v l) (hR:SlV w vx l')
  (a1:l.length+l'.length≤1048576) (a0:B≤w.heap.size) (h:∀ v' w',Rws w' B v' (l++l')→w.grownBy w' v.ownBlock→K (a.put o.dst v') w') :
  if Region.wanted o (yielded a3 a.tmps)=true then Oper.wp prog o a w K Q else E:=by
 rw[if_pos (by simp[Region.wanted,a2])];exact Bu s x ho B v vx l l' hs hx hI hR a1 a0 h
theorem kz {w u:World} {B:Nat} {v:Value} {l:List Rw}(h:Rws w B v l) (hu:u.heap=w.heap):Rws u B v l:=by
 unfold Rws World.ownsRow at *;rw[hu];exact h
theorem yn {w u:World} {a:Option Addr} {l:List Rw}(h:dd w a l) (hu:u.heap=w.heap):dd u a l:=by
 rcases h with h|⟨b,o,h1,h2⟩
 .exact .inl h
 .refine .inr ⟨b,o,h1,fun k e he=>?_⟩
  have e1:∀ p,u.cell? p=w.cell? p:=fun p=>by unfold World.cell?;rw[hu]
  rw[e1,e1,e1];exact h2 k e he
theorem cz {W:World} {B B':Nat} {v:Value} {l:List Rw}(h:Rws W B v l) (hb:B'≤B):Rws W B' v l:=by
 refine⟨h.1,?_⟩;rcases h.2 with h0|⟨g,cap,cur,q1,q2,q3⟩
 .exact .inl h0
 .exact .inr ⟨g,cap,cur,q1,by omega,q3⟩
theorem gh {w u:World} {v:Value} {l:List Rw}(h:SlV w v l) (hu:u.heap=w.heap):SlV u v l:=by
 obtain⟨a,c,rfl,h⟩:=h;refine⟨a,c,rfl,?_⟩;rcases h with h|⟨b,o,h1,h2⟩
 .exact .inl h
 .refine .inr ⟨b,o,h1,fun k e he=>?_⟩
  have e1:∀ p,u.cell? p=w.cell? p:=fun p=>by unfold World.cell?;rw[hu]
  rw[e1,e1,e1];exact h2 k e he
theorem Td {w u w':World} {B:Nat} {r:Option Nat} {v:Value} {l:List Rw}(hg:u.grownBy w' r) (h:Rws w B v l) (hu:u.heap=w.heap) (hn:v.ownBlock≠r):SlV w' v l :=
 Rws.slV (World.ownsRow.kept (kz h hu) hg (.inr hn))
theorem sn (w:World) (n B:Nat) (hn:n=w.heap.size) (hB:B≤w.heap.size):Rws (w.alloc (.cells #[] 37)) B (.slice (some ⟨n,0,none⟩) 0 0) []:=by
 subst hn;exact⟨rfl,.inr ⟨w.heap.size,0,#[],rfl,hB,heap_alloc_new _ _,bR,Nat.zero_le _,rfl,rfl⟩⟩
theorem gg (w:World) (n B:Nat) (x:Rw) (hn:n=w.heap.size) (hB:B≤w.heap.size):Rws (w.alloc (.cells #[.string x.key,.string x.text,.string x.val] 37)) B (.slice (some ⟨n,0,none⟩) 1 1) [x]:=by
 subst hn;exact⟨rfl,.inr ⟨w.heap.size,1,_,rfl,hB,heap_alloc_new _ _,bR,by unfold maxLen;omega,rfl,rfl⟩⟩
theorem Py (n:Nat):(Builtin.zeroCells #[.string ⟨#[]⟩,.string ⟨#[]⟩,.string ⟨#[]⟩] n).size=n*3:=by simp[Builtin.zeroCells]
theorem Hj (w:World) (n:Nat) (hn:n≤1048576) :
  Calls prog 122 #[.slice none 0 0,.int .i64 n] w fun e w'=>∃ v,e=.returned v∧Rws w' w.heap.size v []∧Below w.heap.size w w':=by
 by_cases h0:0<n
 .obtain⟨i0,hi,hzz,hz1,hz2⟩:=info_parts Ft
  have a0:(0:Int)<(n:Int):=by omega
  go_enter func122,ntmps122;go_wp2_with (at_builtin;refine Go.Lib.wpList_append_run _ rfl _ _ 32 3 rfl _ _ rfl rfl _ _ (Go.Lib.run_append_nil_zeros _ 32 3 _ 37 i0 (.agg #[.string ⟨#[]⟩,.string ⟨#[]⟩,.string ⟨#[]⟩]) .i64 .i64 underlying32 underlying3 hi hzz n h0 (by rw[hz1];decide) (by omega) (by rw[hz2];omega)) ?_)
  go_ret;refine⟨_,rfl,⟨rfl,.inr ⟨w.heap.size,_,_,rfl,bR,heap_alloc_new _ _,Nat.zero_le _,grownCap_le_maxLen w n 0 _ (by unfold maxLen;omega),?_,rfl⟩⟩,(bY _).drew⟩;have:=grownCap_ge w n 0 37;rw[Array.size_append,Py,Py];omega
 .obtain rfl:n=0:=by omega
  go_enter func122,ntmps122;go_wp2;go_ret;exact⟨_,rfl,⟨rfl,.inl ⟨rfl,rfl⟩⟩,bX⟩
theorem Qb (w:World) (tb:Nat) (x1 x2:Value) (l1 l2:List Rw) (hh:w.heap[tb]? = some (.cells #[x1,x2] 32)) (aa:l1.length≤4000) (ab:l2.length≤4000) (a6:SlV w x1 l1) (a7:SlV w x2 l2) :
  Calls prog 86 #[.slice (some ⟨tb,0,none⟩) 2 2] w fun e w'=>∃ v,e=.returned v∧Rws w' w.heap.size v (l1++l2)∧Below w.heap.size w w':=by
 have q0:=cell_of_row _ _ 0 _ _ _ hh;have q1:=cell_of_row _ _ 1 _ _ _ hh;have a4:tb<w.heap.size:=(Array.getElem?_eq_some_iff.1 hh).1;have a8:Hid (SlV w x1 l1):=a6;have a9:Hid (SlV w x2 l2):=a7;obtain⟨a1,c1,rfl,_⟩:=a6;obtain⟨a2,c2,rfl,_⟩:=a7;have G:=fun u=>Hj u (l1.length+l2.length) (by omega)
 rw[show ((l1.length+l2.length:Nat):Int)=(l1.length:Int)+(l2.length:Int) by omega]at G;clear hh;go_enter func86,ntmps86;go_wp2;go_loop [3,11] (fun s i=>(s=.int .i64 0∧i=.int .i64 0)∨(s=.int .i64 (l1.length:Int)∧i=.int .i64 1)∨(s=.int .i64 ((l1.length:Int)+(l2.length:Int))∧i=.int .i64 2)) (fun _ i=>2-(intOf i).toNat)
 case atStart=>exact .inl ⟨rfl,rfl⟩
 case round =>
  rcases hrel with ⟨rfl,rfl⟩|⟨rfl,rfl⟩|⟨rfl,rfl⟩
  .go_wp2
   exact⟨.inr (.inl ⟨by go_num,rfl⟩),by simp[intOf]⟩
  .go_wp2
   exact⟨.inr (.inr ⟨by go_num,rfl⟩),by simp[intOf]⟩
  .go_wp2_with fail
   refine (G _).mono ?_;rintro e w1 ⟨v1,rfl,i1,b1⟩;clear G;have r0:w1.cell? ⟨tb,0,none⟩=_:=(b1.cell a4).trans q0;have r1:w1.cell? ⟨tb,1,none⟩=_:=(b1.cell a4).trans q1;go_wp2_with fail;go_loopw [6,27] (fun v i wr=>(i=.int .i64 0∧Rws wr w.heap.size v []∧Below w.heap.size w wr)∨(i=.int .i64 1∧Rws wr w.heap.size v l1∧Below w.heap.size w wr)∨(i=.int .i64 2∧Rws wr w.heap.size v (l1++l2)∧Below w.heap.size w wr)) (fun _ i _=>2-(intOf i).toNat)
   case atStart=>exact .inl ⟨rfl,i1,b1⟩
   case round =>
    clear i1 b1 r0 r1;rcases hrel with ⟨rfl,i2,b2⟩|⟨rfl,i2,b2⟩|⟨rfl,i2,b2⟩
    .have r0:wr.cell? ⟨tb,0,none⟩=_:=(b2.cell a4).trans q0
     have a5:=b2.size;go_wp2_with (at_builtin;refine ef rfl _ _ rfl w.heap.size _ (.slice a1 l1.length c1) [] l1 rfl rfl i2 (a8.out.below b2 bR) (by simp;omega) a5 ?_)
     intro v3 w3 a3 a0;have b3:Below w.heap.size w w3:=Below.grown b2 a0 b2.size (fun j hj=>(World.ownsRow.lt i2 j hj).1);have I3:Hid (Rws w3 w.heap.size v3 l1):=a3;have B3:Hid _:=b3;clear a3 a0 b3 i2 b2 r0;go_wp2;exact⟨.inr (.inl ⟨rfl,I3.out,B3.out⟩),by simp[intOf]⟩
    .have r1:wr.cell? ⟨tb,1,none⟩=_:=(b2.cell a4).trans q1
     have a5:=b2.size;go_wp2_with (at_builtin;refine ef rfl _ _ rfl w.heap.size _ (.slice a2 l2.length c2) l1 l2 rfl rfl i2 (a9.out.below b2 bR) (by omega) a5 ?_)
     intro v3 w3 a3 a0;have b3:Below w.heap.size w w3:=Below.grown b2 a0 b2.size (fun j hj=>(World.ownsRow.lt i2 j hj).1);have I3:Hid (Rws w3 w.heap.size v3 (l1++l2)):=a3;have B3:Hid _:=b3;clear a3 a0 b3 i2 b2 r1;go_wp2;exact⟨.inr (.inr ⟨rfl,I3.out,B3.out⟩),by simp[intOf]⟩
    .have I3:Hid (Rws _ _ _ _):=i2
     have B3:Hid _:=b2;clear i2 b2;go_wp2;go_ret;exact⟨_,rfl,I3.out,B3.out⟩
theorem a84 {l:List Rw} {gs:List (List Rw)}(hg:dm l=true) (hf:gs.flatten=l) (ho:∀ p ∈ gs,ko p=true):uk gs:=by
 refine al8 (fun g hgm=>?_) (by rw[hf];exact wo (p9 hg));have:=ho g hgm;unfold ko at this;simp only[Bool.and_eq_true,decide_eq_true_eq]at this;obtain⟨⟨h1,h2⟩,_⟩:=this;refine⟨(oh.1 h2).1,?_,(oh.1 h2).2.1⟩
 cases g with
 | nil=>simp at h1
 | cons x g=>simp
theorem ad3 {g:List Rw}(h:ko g=true):lnP g≤300∧0<g.length∧dm g=true:=by
 unfold ko at h;simp only[Bool.and_eq_true,decide_eq_true_eq]at h;refine⟨h.2,?_,h.1.2⟩
 cases g with
 | nil=>simp at h
 | cons x g=>simp

theorem Jz {gs:List (List Rw)} {k:Nat} {g:List Rw}(h:gs[k]? = some g):(gs.take (k+1)).flatten=(gs.take k).flatten++g:=by
 rw[List.take_add_one,h];simp
theorem Ei (gs:List (List Rw)) (k:Nat):(gs.take k).flatten.length≤gs.flatten.length:=by
 have h:=List.take_append_drop k gs;have:gs.flatten.length=((gs.take k)++(gs.drop k)).flatten.length:=by rw[h]
 rw[List.flatten_append,List.length_append]at this;omega
def qu (w:World) (v:Value) (gs:List (List Rw)):Prop :=
 ∃ a c,v=.slice a gs.length c∧(gs=[]∨∃ b o,a=some ⟨b,o,none⟩∧∀ (k:Nat) (g:List Rw),gs[k]? = some g→∃ (x:Option Addr) (m:Nat),w.cell? ⟨b,o+k,none⟩=some (.slice x g.length m)∧dd w x g)
theorem qu.below {w w':World} {v:Value} {gs:List (List Rw)}(h:qu w v gs) (hb:Below w.heap.size w w'):qu w' v gs:=by
 obtain⟨a,c,rfl,h⟩:=h;refine⟨a,c,rfl,?_⟩;rcases h with h|⟨b,o,rfl,h⟩
 .exact .inl h
 .refine .inr ⟨b,o,rfl,fun k g hg=>?_⟩
  obtain⟨x,m,h1,h2⟩:=h k g hg;exact⟨x,m,(hb.cell (p:=⟨b,o+k,none⟩) (ag h1)).trans h1,h2.below hb bR⟩
theorem qu.nil (w:World) (c:Nat) (a:Option Addr):qu w (.slice a 0 c) []:=⟨a,c,rfl,.inl rfl⟩
theorem Ee {w:World} {v:Value} {gs:List (List Rw)}(h:qu w v gs) (hl:gs.length≤1000) (hf:gs.flatten.length≤100000) :
  Calls prog 86 #[v] w fun e w'=>∃ v,e=.returned v∧Rws w' w.heap.size v gs.flatten∧Below w.heap.size w w':=by
 have HL:Hid (∀ u,Below w.heap.size w u→qu u v gs):=fun u hu=>h.below hu
 obtain⟨a,c,rfl,_⟩:=h;have G:=fun u=>Hj u gs.flatten.length (by omega)
 go_enter func86,ntmps86;go_wp2;go_loopw [3,11] (fun s i wr=>∃ k:Nat,k≤gs.length∧i=.int .i64 (k:Int)∧s=.int .i64 ((gs.take k).flatten.length:Int)∧wr=w) (fun _ i _=>gs.length-(intOf i).toNat)
 case atStart=>exact⟨0,Nat.zero_le _,rfl,rfl,rfl⟩
 case round =>
  obtain⟨k,hk,rfl,rfl,rfl⟩:=hrel;by_cases a0:k<gs.length
  .obtain⟨g,hg⟩:∃ g,gs[k]? = some g:=by exact⟨_,List.getElem?_eq_getElem a0⟩
   obtain⟨a2,c2,hv,hs⟩:=HL.out wr bX;injection hv with e1 _ e3;subst e1;subst e3;rcases hs with h0|⟨b,o,rfl,hE⟩
   .rw[h0]at hg;simp at hg
   obtain⟨x,m,q1,_⟩:=hE k g hg;have a4:=ag q1;have a9:(k:Int)<(gs.length:Int):=by omega
   have HF:Hid ((gs.take (k+1)).flatten.length=(gs.take k).flatten.length+g.length):=by show _=_;rw[Jz hg,List.length_append]
   have a7:=Ei gs (k+1);rw[HF.out]at a7;clear hE hg G;generalize (gs.take k).flatten.length=n at *;generalize g.length=gl at *;have aa:(0:Int)≤(n:Int)+(gl:Int):=by omega
   have ab:¬ (n:Int)+(gl:Int)<0:=by omega
   go_wp2;exact⟨⟨k+1,by omega,by go_num,by (first|(rw[HF.out];go_num)|rfl),by (first|rfl|trivial)⟩,by simp[intOf];omega⟩
  .obtain rfl:k=gs.length:=by omega
   rw[List.take_length];have GG:=G wr;clear G a0 hk;have HN:Hid (gs.flatten.length≤100000):=hf;clear hf;generalize hfn:gs.flatten.length=n at GG ⊢;have a8:n≤100000:=by rw[<- hfn];exact HN.out
   clear hfn;go_wp2_with fail;refine GG.mono ?_;rintro e w1 ⟨v1,rfl,i1,b1⟩;obtain⟨w0,rfl⟩:∃ w0,w0=wr:=⟨_,rfl⟩
   clear GG;go_wp2_with fail;go_loopw [6,27] (fun v i wr=>∃ k:Nat,k≤gs.length∧i=.int .i64 (k:Int)∧Rws wr w0.heap.size v (gs.take k).flatten∧Below w0.heap.size w0 wr) (fun _ i _=>gs.length-(intOf i).toNat)
   case atStart=>exact⟨0,Nat.zero_le _,rfl,i1,b1⟩
   case round =>
    clear i1 b1;obtain⟨k,hk,rfl,hI,hb⟩:=hrel;have HB:Hid (Below w0.heap.size w0 wr):=hb;by_cases a0:k<gs.length
    .obtain⟨g,hg⟩:∃ g,gs[k]? = some g:=by exact⟨_,List.getElem?_eq_getElem a0⟩
     obtain⟨a2,c2,hv,hs⟩:=HL.out wr hb;injection hv with e1 _ e3;subst e1;subst e3;rcases hs with h0|⟨b,o,rfl,hE⟩
     .rw[h0]at hg;simp at hg
     obtain⟨x,m,q1,q2⟩:=hE k g hg;have a4:=ag q1;have a9:(k:Int)<(gs.length:Int):=by omega
     have a1:Hid ((gs.take (k+1)).flatten=(gs.take k).flatten++g):=Jz hg;have a3:Hid ((gs.take k).flatten.length+g.length≤1048576):=by
      show _≤_
      have h1:=Ei gs (k+1);rw[a1.out,List.length_append]at h1;have h2:=HN.out;omega
     obtain⟨F,HF⟩:∃ F,Hid ((gs.take k).flatten=F):=⟨_,rfl⟩
     rw[HF.out]at hI a1 a3;have HI:Hid (Rws wr w0.heap.size u6 F):=hI;have HS:Hid (SlV wr (.slice x g.length m) g):=⟨_,_,rfl,q2⟩;clear hI hE hg q2 hb;go_wp2_with (at_builtin;refine ef rfl _ _ rfl w0.heap.size u6 (.slice x g.length m) F g rfl rfl HI.out HS.out a3.out HB.out.size ?_)
     intro v3 w3 i3 g3;have a6:Hid (Rws w3 w0.heap.size v3 (F++g)):=i3;have a5:Hid (Below w0.heap.size w0 w3):=Below.grown HB.out g3 HB.out.size (fun j hj=>(World.ownsRow.lt HI.out j hj).1);clear i3 g3 HI HS HB q1 a4;go_wp2;exact⟨⟨k+1,by omega,by go_num,by rw[a1.out];exact a6.out,a5.out⟩,by simp[intOf];omega⟩
    .obtain rfl:k=gs.length:=by omega
     rw[List.take_length]at hI;have HI:Hid (Rws wr w0.heap.size u6 gs.flatten):=hI;clear hI hb a0 hk;go_wp2;go_ret;exact⟨_,rfl,HI.out,HB.out⟩
end Go.Proofs.YtjbmgghehdemdaaGreatDoor
