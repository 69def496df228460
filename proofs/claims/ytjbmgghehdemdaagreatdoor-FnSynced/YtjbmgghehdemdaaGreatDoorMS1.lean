/- Norm -/
import Derived.Test.YtjbmgghehdemdaaGreatDoorMS0
import Derived.Test.YtjbmgghehdemdaaGreatDoorProg
import Derived.Test.YtjbmgghehdemdaaGreatDoorRows
import Derived.OpenShut
import Derived.LaidLaws
import Derived.Stop.LaidErr
import Derived.WalkKit
import Derived.OpenVars
namespace Go.Proofs.YtjbmgghehdemdaaGreatDoor
set_option maxRecDepth 100000
set_option maxHeartbeats 16000000
open _root_.Go.Proofs.Tryz
def cls (r:Int):Int :=
 if r=768 then 230 else if r=769 then 230 else if r=770 then 230 else if r=771 then 230 else if r=772 then 230 else if r=774 then 230 else if r=775 then 230 else if r=776 then 230 else if r=778 then 230 else if r=780 then 230
 else if r=803 then 220 else if r=817 then 220 else if r=807 then 202 else if r=808 then 202 else if r=824 then 1 else 0
theorem a06 (r:Int):0<=cls r/\cls r<=230:=by
 unfold cls;repeat' split
 all_goals omega
def at0 (l:List Int) (k:Nat):Int:=l[k]?.getD 0
theorem Iu (l:List Int) (k:Nat) (x:Int) (h:k<l.length):at0 (l.set k x) k=x:=by simp[at0,h]
theorem C5 (l:List Int) (k j:Nat) (x:Int) (h:k≠j):at0 (l.set k x) j=at0 l j:=by simp[at0,List.getElem?_set_ne h]
def swp (l:List Int) (k:Nat):List Int:=(l.set (k+1) (at0 l k)).set k (at0 l (k+1))
theorem Z2 (l:List Int) (k:Nat):(swp l k).length=l.length:=by simp[swp]
theorem b98 (l:List Int) (k:Nat) (h:k+1<l.length):at0 (swp l k) k=at0 l (k+1):=Iu _ _ _ (by simp;omega)
theorem b97 (l:List Int) (k:Nat) (h:k+1<l.length):at0 (swp l k) (k+1)=at0 l k:=by
 rw[swp,C5 _ _ _ _ (by omega),Iu _ _ _ h]
theorem Qz (l:List Int) (k j:Nat) (h1:j≠k) (h2:j≠k+1):at0 (swp l k) j=at0 l j:=by
 rw[swp,C5 _ _ _ _ (by omega),C5 _ _ _ _ (by omega)]
def bub (l:List Int):Nat->List Int
 | 0=>l
 | k+1=>if 0<cls (at0 l (k+1))/\cls (at0 l (k+1))<cls (at0 l k) then bub ((l.set (k+1) (at0 l k)).set k (at0 l (k+1))) k else l
def srt (l:List Int):Nat->List Int
 | 0=>l
 | i+1=>bub (srt l i) i
def mx (l:List Int):List Int:=srt l l.length
theorem Vg (l:List Int) (k:Nat):(bub l k).length=l.length:=by
 induction k generalizing l with
 | zero=>rfl
 | succ k ih =>
  simp only[bub];split
  .rw[ih];simp
  .rfl
theorem tw (l:List Int) (i:Nat):(srt l i).length=l.length:=by
 induction i with
 | zero=>rfl
 | succ i ih=>simp only[srt];rw[Vg,ih]
theorem zo (l:List Int):(mx l).length=l.length:=tw l _
theorem Bg (l:List Int) (k:Nat) (h:0<cls (at0 l (k+1))/\cls (at0 l (k+1))<cls (at0 l k)):bub l (k+1)=bub ((l.set (k+1) (at0 l k)).set k (at0 l (k+1))) k:=by
 simp only[bub,if_pos h]
theorem pc (l:List Int) (k:Nat) (h:¬ (0<cls (at0 l (k+1))/\cls (at0 l (k+1))<cls (at0 l k))):bub l (k+1)=l:=by
 simp only[bub,if_neg h]
def wz (f:Nat) (l:List Int):Nat->List Int
 | 0=>l
 | k+1=>if cls (at0 l (f+k+1))<cls (at0 l (f+k)) then wz f ((l.set (f+k) (at0 l (f+k+1))).set (f+k+1) (at0 l (f+k))) k else l
def xg (f:Nat) (l:List Int):Nat->List Int
 | 0=>l
 | i+1=>wz f (xg f l i) i
theorem U3 (f:Nat) (l:List Int) (k:Nat) (h:cls (at0 l (f+k+1))<cls (at0 l (f+k))):wz f l (k+1)=wz f ((l.set (f+k) (at0 l (f+k+1))).set (f+k+1) (at0 l (f+k))) k:=by
 simp only[wz,if_pos h]
theorem Li (f:Nat) (l:List Int) (k:Nat) (h:¬ cls (at0 l (f+k+1))<cls (at0 l (f+k))):wz f l (k+1)=l:=by
 simp only[wz,if_neg h]
theorem ad0 (l:List Int) (k:Nat):(l.set k (at0 l (k+1))).set (k+1) (at0 l k)=swp l k:=by
 unfold swp;exact (List.set_comm _ _ (by omega)).symm
def Run (f a:Nat) (l:List Int):Prop:=(∀ j,f<=j->j<a->0<cls (at0 l j))/\(f=0\/cls (at0 l (f-1))=0)
theorem b18 {f a k:Nat} {l:List Int}(h:Run f a l) (m:f<=k) (i:k+1<a) (g:k+1<l.length):Run f a (swp l k):=by
 refine⟨fun j h1 b=>?_,?_⟩
 .by_cases c:j=k
  .subst c;rw[b98 _ _ g];exact h.1 _ (by omega) (by omega)
  .by_cases d:j=k+1
   .subst d;rw[b97 _ _ g];exact h.1 _ (by omega) (by omega)
   .rw[Qz _ _ _ c d];exact h.1 j h1 b
 .rcases h.2 with b|b
  .exact .inl b
  .by_cases e:f=0
   .exact .inl e
   .right;rw[Qz _ _ _ (by omega) (by omega)];exact b
theorem ag2 {f a:Nat}(k:Nat) (l:List Int) (h:Run f a l) (g:f+k<a) (i:f+k<l.length):bub l (f+k)=wz f l k/\Run f a (wz f l k):=by
 induction k generalizing l with
 | zero =>
  refine⟨?_,h⟩;show bub l f=l
  cases f with
  | zero=>rfl
  | succ p =>
   refine pc l p fun c=>?_
   rcases h.2 with b|b
   .omega
   .have e:cls (at0 l p)=0:=b
    omega
 | succ k ih =>
  have d:=h.1 (f+k+1) (by omega) (by omega);by_cases c:cls (at0 l (f+k+1))<cls (at0 l (f+k))
  .rw[U3 f l k c,ad0,show f+(k+1)=(f+k)+1 by omega,Bg l (f+k) ⟨d,c⟩]
   exact ih (swp l (f+k)) (b18 h (by omega) (by omega) (by omega)) (by omega) (by rw[Z2];omega)
  .rw[Li f l k c,show f+(k+1)=(f+k)+1 by omega,pc l (f+k) (fun h=>c h.2)]
   exact⟨rfl,h⟩
theorem Zw (l:List Int) (k j:Nat) (h:k<j):at0 (bub l k) j=at0 l j:=by
 induction k generalizing l with
 | zero=>rfl
 | succ k ih =>
  by_cases c:0<cls (at0 l (k+1))/\cls (at0 l (k+1))<cls (at0 l k)
  .rw[Bg l k c]
   rw[ih _ (by omega)];exact Qz l k j (by omega) (by omega)
  .rw[pc l k c]
theorem Ad (l:List Int) (i j:Nat) (h:i<=j):at0 (srt l i) j=at0 l j:=by
 induction i with
 | zero=>rfl
 | succ i ih=>rw[srt,Zw _ _ _ (by omega),ih (by omega)]
theorem Qx {f:Nat}(m:Nat) (zs:List Int) (g:f+m<=zs.length) (h0:f=0\/cls (at0 (srt zs f) (f-1))=0) (a:∀ j,f<=j->j<f+m->0<cls (at0 zs j)) :
  xg f (srt zs f) m=srt zs (f+m)/\Run f (f+m) (srt zs (f+m)):=by
 induction m with
 | zero=>exact⟨rfl,fun j h1 h2=>by omega,h0⟩
 | succ m ih =>
  obtain⟨e,b⟩:=ih (by omega) (fun j h1 h2=>a j h1 (by omega));have c:Run f (f+m+1) (srt zs (f+m)):=by
   refine⟨fun j h1 h2=>?_,b.2⟩;by_cases d:j=f+m
   .subst d;rw[Ad _ _ _ bR];exact a _ h1 (by omega)
   .exact b.1 j h1 (by omega)
  have:=ag2 m (srt zs (f+m)) c (by omega) (by rw[tw];omega);refine⟨?_,?_⟩
  .show wz f (xg f (srt zs f) m) m=_
   rw[e,<- this.1];rfl
  .show Run f (f+m+1) (bub (srt zs (f+m)) (f+m))
   rw[this.1];exact this.2
theorem Hc (zs:List Int) (a:Nat) (h:cls (at0 zs a)=0):srt zs (a+1)=srt zs a:=by
 show bub (srt zs a) a=_
 cases a with
 | zero=>rfl
 | succ a =>
  refine pc _ _ fun c=>?_
  rw[Ad _ _ _ bR,h]at c;omega
open Go.RowKit
def Yr {H:Type} (rows:List (List Int)):DataW H:=.agg (rows.map fun row=>.agg (row.map fun z=>.lit (.int .i64 z)))
theorem Vl {H:Type} {enc:TypeId × Value->H} {P:Program} {w:World} {base:Nat} {W:Nat->Bool} {D:Bool} {u:Nat} {t e ti:TypeId} {n m:Nat} {fs:Array Field} {cs:List Value} {rows:List (List Int)} {p:List MemPlace}
  (ht:P.underlying t=some (.array n e)) (N:P.underlying e=some (.struct fs)) (v:P.cellsOf e=m) (X:fs.size=m)
  (O:∀ (j:Nat) (f:Field),fs[j]? = some f->f.offset=j/\f.type=ti) (F:P.underlying ti=some (.int .i64)) (A:P.cellsOf ti=1)
  (h:DataW.trod enc P w base W D u t cs=some (Yr rows,p)) :
  cs.length=P.cellsOf t/\∀ (i:Nat) (row:List Int) (j:Nat) (z:Int),rows[i]? = some row->row[j]? = some z->cs[i*m+j]? = some (.int .i64 z):=by
 obtain⟨r,m1,-,S,B,a0,C⟩:=DataW.trod_array ht h;refine⟨B,?_⟩;intro i row j z Q R;have G:rows.map (fun row=>(DataW.agg (row.map fun z=>.lit (.int .i64 z)):DataW H))=r.map (·.1):=by
  have:=congrArg Prod.fst S;simpa [Yr] using this
 have g:(r.map (·.1))[i]? = some (DataW.agg (row.map fun z=>.lit (.int .i64 z))):=by rw[<- G];simp[Q]
 rw[List.getElem?_map,Option.map_eq_some_iff]at g;obtain⟨x,b,I⟩:=g;have Z:=(List.getElem?_eq_some_iff.1 b).1;have l:=C i (by omega);rw[b]at l;obtain⟨s,n1,-,T,-,a1,E⟩:=DataW.trod_struct N l;have J:row.map (fun z=>(DataW.lit (.int .i64 z):DataW H))=s.map (·.1):=by
  have:=congrArg Prod.fst T;rw[I]at this;simpa using this
 have o:(s.map (·.1))[j]? = some (DataW.lit (.int .i64 z)):=by rw[<- J];simp[R]
 rw[List.getElem?_map,Option.map_eq_some_iff]at o;obtain⟨y,d,c⟩:=o;have Y:=(List.getElem?_eq_some_iff.1 d).1;obtain⟨f,a⟩:∃ f,fs[j]? = some f:=⟨fs[j]'(by omega),by simp⟩
 obtain⟨U,V⟩:=O j f a;have q:=E j f a;rw[d,U,V,A]at q;obtain⟨k,K,L,_⟩:=DataW.trod_int F q;have M:k=z:=by rw[L]at c;simpa using c
 subst M;have:=congrArg (·[0]?) K;simp only[List.getElem?_take,List.getElem?_drop,v]at this;rw[if_pos (by omega),if_pos (by omega)]at this;simpa using this
def dm (w:World) (g:Nat) (zs:List Int):Prop:=∃ t fr,w.heap[g]? = some (.cells (zs.map (Value.int .i64)).toArray t fr)
theorem dm.lt {w:World} {g:Nat} {zs:List Int}(h:dm w g zs):g<w.heap.size:=by
 obtain⟨t,a,h⟩:=h;exact (Array.getElem?_eq_some_iff.1 h).1
theorem dm.below {w w':World} {g B:Nat} {zs:List Int}(h:dm w g zs) (b:Below B w w') (c:g<B):dm w' g zs:=by
 obtain⟨t,a,h⟩:=h;exact⟨t,a,by rw[b.block g c];exact h⟩
theorem yy {P:Program} {W:World} {d:String} {rows:List (List Int)} {flat:List Int} {rest:List (String × DataW Unit)} {g:Nat} {t e ti:TypeId} {n m:Nat} {fs:Array Field}
  (l:P.globalNamed d=some g) (z:(P.globals[g]?).map (·.type)=some t) (ht:P.underlying t=some (.array n e)) (D:P.underlying e=some (.struct fs)) (o:P.cellsOf e=m) (v:fs.size=m)
  (E:∀ (j:Nat) (f:Field),fs[j]? = some f->f.offset=j/\f.type=ti) (y:P.underlying ti=some (.int .i64)) (r:P.cellsOf ti=1)
  (I:P.cellsOf t=flat.length) (u:∀ i ∈ List.range flat.length,((rows[i / m]?).bind (·[i % m]?))=flat[i]?)
  (h:laidMet P ((d,Yr rows)::rest) W):dm W g flat:=by
 obtain⟨L,⟨J,M,B,H,p,q,w,x,a,hd,_,_⟩,_⟩:=h;obtain rfl:=Option.some.inj (l.symm.trans w);obtain rfl:=Option.some.inj (z.symm.trans x);obtain⟨K,C⟩:=Vl ht D o v E y r hd;have s:B=(flat.map (Value.int .i64)).toArray:=by
  apply Array.ext'
  simp only;apply List.ext_getElem?
  intro i;by_cases b:i<flat.length
  .have k:=u i (by simpa using b)
   rw[List.getElem?_eq_getElem b]at k;obtain⟨A,F,G⟩:=Option.bind_eq_some_iff.1 k;have:=C (i / m) A (i % m) _ F G;rw[show i / m*m+i % m=i by rw[Nat.mul_comm];exact Nat.div_add_mod i m]at this;rw[this];simp[b]
  .rw[List.getElem?_eq_none (by omega),List.getElem?_eq_none (by simp;omega)]
 unfold World.var? at a;rw[l]at a;simp only[Option.bind_some]at a;split at a
 .rename_i c t fr hb
  cases a;exact⟨t,fr,by rw[hb,s]⟩
 .cases a
def jn:List (List Int):=[[824,1],[807,202],[808,202],[803,220],[817,220],[768,230],[769,230],[770,230],[771,230],[772,230],[774,230],[775,230],[776,230],[778,230],[780,230]]
def jm:List Int:=jn.flatten
theorem Fb {H:Type} {enc:TypeId × Value->H} {P:Program} {w:World} {d:Nat->Bool}:∀ {a:List String} {gs:List (DataW H)} {c:List MemPlace},DataW.TrodVars enc P w d a gs c->gs.length=a.length
 | [],[],_,_=>rfl
 | [],_::_,_,h=>h.elim
 | _::_,[],_,h=>h.elim
 | _::_,_::_,_,h=>by
  obtain⟨_,_,_,_,_,_,_,_,_,_,b,_⟩:=h;simp[Fb b]
def ot:List (List Int):=[[192,65,768],[193,65,769],[194,65,770],[195,65,771],[196,65,776],[197,65,778],[199,67,807],[200,69,768],[201,69,769],[202,69,770],[203,69,776],[204,73,768],[205,73,769],[206,73,770],[207,73,776],[209,78,771],[210,79,768],[211,79,769],[212,79,770],[213,79,771],[214,79,776],[217,85,768],[218,85,769],[219,85,770],[220,85,776],[221,89,769]]
def Al:List Int:=ot.flatten
def zh:List (List Int):=[[255,121,776],[7844,194,769],[7845,226,769],[7779,115,803],[7785,7779,775]]
def zg:List Int:=zh.flatten
theorem b67:prog.globalNamed "loop.example/g00158/impl.marks" = some 7:=by kernel_rfl
theorem b99:(prog.globals[7]?).map (·.type)=some 278:=by kernel_rfl
theorem bh7:prog.globalNamed "loop.example/g00158/impl.capitalPairs" = some 10:=by kernel_rfl
theorem bi2:(prog.globals[10]?).map (·.type)=some 295:=by kernel_rfl
theorem bh8:prog.globalNamed "loop.example/g00158/impl.otherPairs" = some 11:=by kernel_rfl
theorem bi3:(prog.globals[11]?).map (·.type)=some 297:=by kernel_rfl
theorem Xo {W:World} {rest:List (String × DataW Unit)}(h:laidMet prog (("loop.example/g00158/impl.marks", Rows.laid_loop_example_g00158_impl_marks)::rest) W):dm W 7 jm :=
 yy (rows:=jn) (m:=2) (ti:=3) b67 b99 underlying278 underlying277 (by kernel_rfl) rfl
  (by intro j f h;rcases j with _|_|j <;> simp at h <;> (subst h;exact⟨rfl,rfl⟩)) underlying3 (by kernel_rfl) (by kernel_rfl) (by decide) h
theorem ag7 {W:World} {rest:List (String × DataW Unit)}(h:laidMet prog (("loop.example/g00158/impl.capitalPairs", Rows.laid_loop_example_g00158_impl_capitalPairs)::rest) W):dm W 10 Al :=
 yy (rows:=ot) (m:=3) (ti:=3) bh7 bi2 underlying295 underlying292 (by kernel_rfl) rfl
  (by intro j f h;rcases j with _|_|_|j <;> simp at h <;> (subst h;exact⟨rfl,rfl⟩)) underlying3 (by kernel_rfl) (by kernel_rfl) (by decide) h
theorem an3 {W:World} {rest:List (String × DataW Unit)}(h:laidMet prog (("loop.example/g00158/impl.otherPairs", Rows.laid_loop_example_g00158_impl_otherPairs)::rest) W):dm W 11 zg :=
 yy (rows:=zh) (m:=3) (ti:=3) bh8 bi3 underlying297 underlying292 (by kernel_rfl) rfl
  (by intro j f h;rcases j with _|_|_|j <;> simp at h <;> (subst h;exact⟨rfl,rfl⟩)) underlying3 (by kernel_rfl) (by kernel_rfl) (by decide) h
theorem Gu:∀ x:List UInt8,Op.bytesLess x x=false
 | []=>rfl
 | a::x=>by simp[Op.bytesLess,Gu x]
theorem Xg:∀ x y:List UInt8,Op.bytesLess x y=true->Op.bytesLess y x=false/\(x == y)=false
 | _,[],h=>by simp[Op.bytesLess]at h
 | [],b::y,_=>by simp[Op.bytesLess]
 | a::x,b::y,h=>by
  simp only[Op.bytesLess,Bool.or_eq_true,Bool.and_eq_true,decide_eq_true_eq,beq_iff_eq]at h;rcases h with h|⟨rfl,h⟩
  .have h1:¬ b<a:=fun c=>absurd (UInt8.lt_trans h c) (UInt8.lt_irrefl _)
   have d:a≠b:=UInt8.ne_of_lt h;have f:b≠a:=fun e=>d e.symm
   simp[Op.bytesLess,h1,d,f]
  .have:=Xg x y h
   simp only[beq_eq_false_iff_ne]at this;simp[Op.bytesLess,this.1,this.2]
theorem Jz:∀ x y:List UInt8,Op.bytesLess x y=true\/(x == y)=true\/Op.bytesLess y x=true
 | [],[]=>by simp
 | [],_::_=>by simp[Op.bytesLess]
 | _::_,[]=>by simp[Op.bytesLess]
 | a::x,b::y=>by
  have:=Jz x y;rcases Nat.lt_trichotomy a.toNat b.toNat with h|h|h
  .left
   simp[Op.bytesLess,UInt8.lt_iff_toNat_lt,h]
  .obtain rfl:a=b:=UInt8.toNat.inj h
   simpa [Op.bytesLess] using this
  .right;right
   simp[Op.bytesLess,UInt8.lt_iff_toNat_lt,h]
theorem K0:∀ x y z:List UInt8,Op.bytesLess x y=true->Op.bytesLess y z=true->Op.bytesLess x z=true
 | _,_,[],_,h=>by cases h':‹List UInt8› <;> simp[Op.bytesLess]at h
 | _,[],_::_,h,_=>by simp[Op.bytesLess]at h
 | [],_::_,_::_,_,_=>by simp[Op.bytesLess]
 | a::x,b::y,c::z,h1,h2=>by
  simp only[Op.bytesLess,Bool.or_eq_true,Bool.and_eq_true,decide_eq_true_eq,beq_iff_eq]at h1 h2 ⊢;rcases h1 with h1|⟨rfl,h1⟩
  .rcases h2 with h2|⟨rfl,h2⟩
   .exact .inl (UInt8.lt_trans h1 h2)
   .exact .inl h1
  .rcases h2 with h2|⟨rfl,h2⟩
   .exact .inl h2
   .exact .inr ⟨rfl,K0 x y z h1 h2⟩

def V5 (k:IntKind) (w:World) (a:Option Addr) (len cap:Nat) (zs:List Int):Prop :=
 (a=none/\len=0/\cap=0/\zs=[]) \/
 ∃ x,a=some x/\len<=cap/\cap<=maxLen/\zs.length=cap/\(∀ i,i<zs.length->w.cell? (x.add i)=some (.int k (zs.getD i 0)))/\∀ n ∈ zs,(Lit.int k n).wf=true
end Go.Proofs.YtjbmgghehdemdaaGreatDoor
