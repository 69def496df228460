/- Norm -/
import Derived.Test.YtjbmgghehdemdaaGreatDoorMR0
import Derived.Test.YtjbmgghehdemdaaGreatDoorProg
import Derived.Test.YtjbmgghehdemdaaGreatDoorRows
import Derived.OpenShut
import Derived.LaidLaws
import Derived.Stop.LaidErr
import Derived.WalkKit
import Derived.OpenVars
namespace Go.Proofs.YtjbmgghehdemdaaGreatDoor
set_option maxRecDepth 100000
set_option maxHeartbeats 16000000
open _root_.Go.Proofs.Tryz
def cls (r:Int):Int :=
 if r=768 then 230 else if r=769 then 230 else if r=770 then 230 else if r=771 then 230 else if r=772 then 230 else if r=774 then 230 else if r=775 then 230 else if r=776 then 230 else if r=778 then 230 else if r=780 then 230
 else if r=803 then 220 else if r=817 then 220 else if r=807 then 202 else if r=808 then 202 else if r=824 then 1 else 0
theorem Yg (r:Int):0<=cls r/\cls r<=230:=by
 unfold cls;repeat' split
 all_goals omega
def at0 (l:List Int) (k:Nat):Int:=l[k]?.getD 0
theorem Gp (l:List Int) (k:Nat) (x:Int) (h:k<l.length):at0 (l.set k x) k=x:=by simp[at0,h]
theorem Aa (l:List Int) (k j:Nat) (x:Int) (h:k≠j):at0 (l.set k x) j=at0 l j:=by simp[at0,List.getElem?_set_ne h]
def swp (l:List Int) (k:Nat):List Int:=(l.set (k+1) (at0 l k)).set k (at0 l (k+1))
theorem Xg (l:List Int) (k:Nat):(swp l k).length=l.length:=by simp[swp]
theorem aw7 (l:List Int) (k:Nat) (h:k+1<l.length):at0 (swp l k) k=at0 l (k+1):=Gp _ _ _ (by simp;omega)
theorem aw6 (l:List Int) (k:Nat) (h:k+1<l.length):at0 (swp l k) (k+1)=at0 l k:=by
 rw[swp,Aa _ _ _ _ (by omega),Gp _ _ _ h]
theorem Pj (l:List Int) (k j:Nat) (h1:j≠k) (h2:j≠k+1):at0 (swp l k) j=at0 l j:=by
 rw[swp,Aa _ _ _ _ (by omega),Aa _ _ _ _ (by omega)]
def bub (l:List Int):Nat->List Int
 | 0=>l
 | k+1=>if 0<cls (at0 l (k+1))/\cls (at0 l (k+1))<cls (at0 l k) then bub ((l.set (k+1) (at0 l k)).set k (at0 l (k+1))) k else l
def srt (l:List Int):Nat->List Int
 | 0=>l
 | i+1=>bub (srt l i) i
def mc (l:List Int):List Int:=srt l l.length
theorem Tx (l:List Int) (k:Nat):(bub l k).length=l.length:=by
 induction k generalizing l with
 | zero=>rfl
 | succ k ih =>
  simp only[bub];split
  .rw[ih];simp
  .rfl
theorem rt (l:List Int) (i:Nat):(srt l i).length=l.length:=by
 induction i with
 | zero=>rfl
 | succ i ih=>simp only[srt];rw[Tx,ih]
theorem xz (l:List Int):(mc l).length=l.length:=rt l _
theorem zo (l:List Int) (k:Nat) (h:0<cls (at0 l (k+1))/\cls (at0 l (k+1))<cls (at0 l k)):bub l (k+1)=bub ((l.set (k+1) (at0 l k)).set k (at0 l (k+1))) k:=by
 simp only[bub,if_pos h]
theorem oe (l:List Int) (k:Nat) (h:¬ (0<cls (at0 l (k+1))/\cls (at0 l (k+1))<cls (at0 l k))):bub l (k+1)=l:=by
 simp only[bub,if_neg h]
def uq (f:Nat) (l:List Int):Nat->List Int
 | 0=>l
 | k+1=>if cls (at0 l (f+k+1))<cls (at0 l (f+k)) then uq f ((l.set (f+k) (at0 l (f+k+1))).set (f+k+1) (at0 l (f+k))) k else l
def uv (f:Nat) (l:List Int):Nat->List Int
 | 0=>l
 | i+1=>uq f (uv f l i) i
theorem Sh (f:Nat) (l:List Int) (k:Nat) (h:cls (at0 l (f+k+1))<cls (at0 l (f+k))):uq f l (k+1)=uq f ((l.set (f+k) (at0 l (f+k+1))).set (f+k+1) (at0 l (f+k))) k:=by
 simp only[uq,if_pos h]
theorem Jh (f:Nat) (l:List Int) (k:Nat) (h:¬ cls (at0 l (f+k+1))<cls (at0 l (f+k))):uq f l (k+1)=l:=by
 simp only[uq,if_neg h]
theorem a55 (l:List Int) (k:Nat):(l.set k (at0 l (k+1))).set (k+1) (at0 l k)=swp l k:=by
 unfold swp;exact (List.set_comm _ _ (by omega)).symm
def Run (f a:Nat) (l:List Int):Prop:=(∀ j,f<=j->j<a->0<cls (at0 l j))/\(f=0\/cls (at0 l (f-1))=0)
theorem aq1 {f a k:Nat} {l:List Int}(h:Run f a l) (m:f<=k) (i:k+1<a) (g:k+1<l.length):Run f a (swp l k):=by
 refine⟨fun j h1 b=>?_,?_⟩
 .by_cases c:j=k
  .subst c;rw[aw7 _ _ g];exact h.1 _ (by omega) (by omega)
  .by_cases d:j=k+1
   .subst d;rw[aw6 _ _ g];exact h.1 _ (by omega) (by omega)
   .rw[Pj _ _ _ c d];exact h.1 j h1 b
 .rcases h.2 with b|b
  .exact .inl b
  .by_cases e:f=0
   .exact .inl e
   .right;rw[Pj _ _ _ (by omega) (by omega)];exact b
theorem a79 {f a:Nat}(k:Nat) (l:List Int) (h:Run f a l) (g:f+k<a) (i:f+k<l.length):bub l (f+k)=uq f l k/\Run f a (uq f l k):=by
 induction k generalizing l with
 | zero =>
  refine⟨?_,h⟩;show bub l f=l
  cases f with
  | zero=>rfl
  | succ p =>
   refine oe l p fun c=>?_
   rcases h.2 with b|b
   .omega
   .have e:cls (at0 l p)=0:=b
    omega
 | succ k ih =>
  have d:=h.1 (f+k+1) (by omega) (by omega);by_cases c:cls (at0 l (f+k+1))<cls (at0 l (f+k))
  .rw[Sh f l k c,a55,show f+(k+1)=(f+k)+1 by omega,zo l (f+k) ⟨d,c⟩]
   exact ih (swp l (f+k)) (aq1 h (by omega) (by omega) (by omega)) (by omega) (by rw[Xg];omega)
  .rw[Jh f l k c,show f+(k+1)=(f+k)+1 by omega,oe l (f+k) (fun h=>c h.2)]
   exact⟨rfl,h⟩
theorem Y8 (l:List Int) (k j:Nat) (h:k<j):at0 (bub l k) j=at0 l j:=by
 induction k generalizing l with
 | zero=>rfl
 | succ k ih =>
  by_cases c:0<cls (at0 l (k+1))/\cls (at0 l (k+1))<cls (at0 l k)
  .rw[zo l k c]
   rw[ih _ (by omega)];exact Pj l k j (by omega) (by omega)
  .rw[oe l k c]
theorem yo (l:List Int) (i j:Nat) (h:i<=j):at0 (srt l i) j=at0 l j:=by
 induction i with
 | zero=>rfl
 | succ i ih=>rw[srt,Y8 _ _ _ (by omega),ih (by omega)]
theorem Ph {f:Nat}(m:Nat) (zs:List Int) (g:f+m<=zs.length) (h0:f=0\/cls (at0 (srt zs f) (f-1))=0) (a:∀ j,f<=j->j<f+m->0<cls (at0 zs j)) :
  uv f (srt zs f) m=srt zs (f+m)/\Run f (f+m) (srt zs (f+m)):=by
 induction m with
 | zero=>exact⟨rfl,fun j h1 h2=>by omega,h0⟩
 | succ m ih =>
  obtain⟨e,b⟩:=ih (by omega) (fun j h1 h2=>a j h1 (by omega));have c:Run f (f+m+1) (srt zs (f+m)):=by
   refine⟨fun j h1 h2=>?_,b.2⟩;by_cases d:j=f+m
   .subst d;rw[yo _ _ _ bR];exact a _ h1 (by omega)
   .exact b.1 j h1 (by omega)
  have:=a79 m (srt zs (f+m)) c (by omega) (by rw[rt];omega);refine⟨?_,?_⟩
  .show uq f (uv f (srt zs f) m) m=_
   rw[e,<- this.1];rfl
  .show Run f (f+m+1) (bub (srt zs (f+m)) (f+m))
   rw[this.1];exact this.2
theorem Fc (zs:List Int) (a:Nat) (h:cls (at0 zs a)=0):srt zs (a+1)=srt zs a:=by
 show bub (srt zs a) a=_
 cases a with
 | zero=>rfl
 | succ a =>
  refine oe _ _ fun c=>?_
  rw[yo _ _ _ bR,h]at c;omega
open Go.RowKit
def Ww {H:Type} (rows:List (List Int)):DataW H:=.agg (rows.map fun row=>.agg (row.map fun z=>.lit (.int .i64 z)))
theorem U2 {H:Type} {enc:TypeId × Value->H} {P:Program} {w:World} {base:Nat} {W:Nat->Bool} {D:Bool} {u:Nat} {t e ti:TypeId} {n m:Nat} {fs:Array Field} {cs:List Value} {rows:List (List Int)} {p:List MemPlace}
  (ht:P.underlying t=some (.array n e)) (N:P.underlying e=some (.struct fs)) (v:P.cellsOf e=m) (X:fs.size=m)
  (O:∀ (j:Nat) (f:Field),fs[j]? = some f->f.offset=j/\f.type=ti) (F:P.underlying ti=some (.int .i64)) (A:P.cellsOf ti=1)
  (h:DataW.trod enc P w base W D u t cs=some (Ww rows,p)) :
  cs.length=P.cellsOf t/\∀ (i:Nat) (row:List Int) (j:Nat) (z:Int),rows[i]? = some row->row[j]? = some z->cs[i*m+j]? = some (.int .i64 z):=by
 obtain⟨r,m1,-,S,B,a0,C⟩:=DataW.trod_array ht h;refine⟨B,?_⟩;intro i row j z Q R;have G:rows.map (fun row=>(DataW.agg (row.map fun z=>.lit (.int .i64 z)):DataW H))=r.map (·.1):=by
  have:=congrArg Prod.fst S;simpa [Ww] using this
 have g:(r.map (·.1))[i]? = some (DataW.agg (row.map fun z=>.lit (.int .i64 z))):=by rw[<- G];simp[Q]
 rw[List.getElem?_map,Option.map_eq_some_iff]at g;obtain⟨x,b,I⟩:=g;have Z:=(List.getElem?_eq_some_iff.1 b).1;have l:=C i (by omega);rw[b]at l;obtain⟨s,n1,-,T,-,a1,E⟩:=DataW.trod_struct N l;have J:row.map (fun z=>(DataW.lit (.int .i64 z):DataW H))=s.map (·.1):=by
  have:=congrArg Prod.fst T;rw[I]at this;simpa using this
 have o:(s.map (·.1))[j]? = some (DataW.lit (.int .i64 z)):=by rw[<- J];simp[R]
 rw[List.getElem?_map,Option.map_eq_some_iff]at o;obtain⟨y,d,c⟩:=o;have Y:=(List.getElem?_eq_some_iff.1 d).1;obtain⟨f,a⟩:∃ f,fs[j]? = some f:=⟨fs[j]'(by omega),by simp⟩
 obtain⟨U,V⟩:=O j f a;have q:=E j f a;rw[d,U,V,A]at q;obtain⟨k,K,L,_⟩:=DataW.trod_int F q;have M:k=z:=by rw[L]at c;simpa using c
 subst M;have:=congrArg (·[0]?) K;simp only[List.getElem?_take,List.getElem?_drop,v]at this;rw[if_pos (by omega),if_pos (by omega)]at this;simpa using this
def db (w:World) (g:Nat) (zs:List Int):Prop:=∃ t fr,w.heap[g]? = some (.cells (zs.map (Value.int .i64)).toArray t fr)
theorem db.lt {w:World} {g:Nat} {zs:List Int}(h:db w g zs):g<w.heap.size:=by
 obtain⟨t,a,h⟩:=h;exact (Array.getElem?_eq_some_iff.1 h).1
theorem db.below {w w':World} {g B:Nat} {zs:List Int}(h:db w g zs) (b:Below B w w') (c:g<B):db w' g zs:=by
 obtain⟨t,a,h⟩:=h;exact⟨t,a,by rw[b.block g c];exact h⟩
theorem xk {P:Program} {W:World} {d:String} {rows:List (List Int)} {flat:List Int} {rest:List (String × DataW Unit)} {g:Nat} {t e ti:TypeId} {n m:Nat} {fs:Array Field}
  (l:P.globalNamed d=some g) (z:(P.globals[g]?).map (·.type)=some t) (ht:P.underlying t=some (.array n e)) (D:P.underlying e=some (.struct fs)) (o:P.cellsOf e=m) (v:fs.size=m)
  (E:∀ (j:Nat) (f:Field),fs[j]? = some f->f.offset=j/\f.type=ti) (y:P.underlying ti=some (.int .i64)) (r:P.cellsOf ti=1)
  (I:P.cellsOf t=flat.length) (u:∀ i ∈ List.range flat.length,((rows[i / m]?).bind (·[i % m]?))=flat[i]?)
  (h:laidMet P ((d,Ww rows)::rest) W):db W g flat:=by
 obtain⟨L,⟨J,M,B,H,p,q,w,x,a,hd,_,_⟩,_⟩:=h;obtain rfl:=Option.some.inj (l.symm.trans w);obtain rfl:=Option.some.inj (z.symm.trans x);obtain⟨K,C⟩:=U2 ht D o v E y r hd;have s:B=(flat.map (Value.int .i64)).toArray:=by
  apply Array.ext'
  simp only;apply List.ext_getElem?
  intro i;by_cases b:i<flat.length
  .have k:=u i (by simpa using b)
   rw[List.getElem?_eq_getElem b]at k;obtain⟨A,F,G⟩:=Option.bind_eq_some_iff.1 k;have:=C (i / m) A (i % m) _ F G;rw[show i / m*m+i % m=i by rw[Nat.mul_comm];exact Nat.div_add_mod i m]at this;rw[this];simp[b]
  .rw[List.getElem?_eq_none (by omega),List.getElem?_eq_none (by simp;omega)]
 unfold World.var? at a;rw[l]at a;simp only[Option.bind_some]at a;split at a
 .rename_i c t fr hb
  cases a;exact⟨t,fr,by rw[hb,s]⟩
 .cases a
def ik:List (List Int):=[[824,1],[807,202],[808,202],[803,220],[817,220],[768,230],[769,230],[770,230],[771,230],[772,230],[774,230],[775,230],[776,230],[778,230],[780,230]]
def ij:List Int:=ik.flatten
theorem De {H:Type} {enc:TypeId × Value->H} {P:Program} {w:World} {d:Nat->Bool}:∀ {a:List String} {gs:List (DataW H)} {c:List MemPlace},DataW.TrodVars enc P w d a gs c->gs.length=a.length
 | [],[],_,_=>rfl
 | [],_::_,_,h=>h.elim
 | _::_,[],_,h=>h.elim
 | _::_,_::_,_,h=>by
  obtain⟨_,_,_,_,_,_,_,_,_,_,b,_⟩:=h;simp[De b]
def nz:List (List Int):=[[192,65,768],[193,65,769],[194,65,770],[195,65,771],[196,65,776],[197,65,778],[199,67,807],[200,69,768],[201,69,769],[202,69,770],[203,69,776],[204,73,768],[205,73,769],[206,73,770],[207,73,776],[209,78,771],[210,79,768],[211,79,769],[212,79,770],[213,79,771],[214,79,776],[217,85,768],[218,85,769],[219,85,770],[220,85,776],[221,89,769]]
def yw:List Int:=nz.flatten
def xr:List (List Int):=[[255,121,776],[7844,194,769],[7845,226,769],[7779,115,803],[7785,7779,775]]
def xq:List Int:=xr.flatten
theorem at8:prog.globalNamed "loop.example/g00158/impl.marks" = some 7:=by kernel_rfl
theorem aw8:(prog.globals[7]?).map (·.type)=some 278:=by kernel_rfl
theorem b33:prog.globalNamed "loop.example/g00158/impl.capitalPairs" = some 10:=by kernel_rfl
theorem b38:(prog.globals[10]?).map (·.type)=some 295:=by kernel_rfl
theorem b34:prog.globalNamed "loop.example/g00158/impl.otherPairs" = some 11:=by kernel_rfl
theorem b39:(prog.globals[11]?).map (·.type)=some 297:=by kernel_rfl
theorem Vv {W:World} {rest:List (String × DataW Unit)}(h:laidMet prog (("loop.example/g00158/impl.marks", Rows.laid_loop_example_g00158_impl_marks)::rest) W):db W 7 ij :=
 xk (rows:=ik) (m:=2) (ti:=3) at8 aw8 underlying278 underlying277 (by kernel_rfl) rfl
  (by intro j f h;rcases j with _|_|j <;> simp at h <;> (subst h;exact⟨rfl,rfl⟩)) underlying3 (by kernel_rfl) (by kernel_rfl) (by decide) h
theorem a83 {W:World} {rest:List (String × DataW Unit)}(h:laidMet prog (("loop.example/g00158/impl.capitalPairs", Rows.laid_loop_example_g00158_impl_capitalPairs)::rest) W):db W 10 yw :=
 xk (rows:=nz) (m:=3) (ti:=3) b33 b38 underlying295 underlying292 (by kernel_rfl) rfl
  (by intro j f h;rcases j with _|_|_|j <;> simp at h <;> (subst h;exact⟨rfl,rfl⟩)) underlying3 (by kernel_rfl) (by kernel_rfl) (by decide) h
theorem ae0 {W:World} {rest:List (String × DataW Unit)}(h:laidMet prog (("loop.example/g00158/impl.otherPairs", Rows.laid_loop_example_g00158_impl_otherPairs)::rest) W):db W 11 xq :=
 xk (rows:=xr) (m:=3) (ti:=3) b34 b39 underlying297 underlying292 (by kernel_rfl) rfl
  (by intro j f h;rcases j with _|_|_|j <;> simp at h <;> (subst h;exact⟨rfl,rfl⟩)) underlying3 (by kernel_rfl) (by kernel_rfl) (by decide) h
def ltS (a b:ByteArray):Bool:=Op.bytesLess a.toList b.toList
def eqS (a b:ByteArray):Bool:=a.toList == b.toList
def gtS (a b:ByteArray):Bool:=!(ltS a b || eqS a b)
def mp (a b:ByteArray):Int:=if ltS a b=true then -1 else if gtS a b=true then 1 else 0
theorem Et:∀ x:List UInt8,Op.bytesLess x x=false
 | []=>rfl
 | a::x=>by simp[Op.bytesLess,Et x]
theorem Vn:∀ x y:List UInt8,Op.bytesLess x y=true->Op.bytesLess y x=false/\(x == y)=false
 | _,[],h=>by simp[Op.bytesLess]at h
 | [],b::y,_=>by simp[Op.bytesLess]
 | a::x,b::y,h=>by
  simp only[Op.bytesLess,Bool.or_eq_true,Bool.and_eq_true,decide_eq_true_eq,beq_iff_eq]at h;rcases h with h|⟨rfl,h⟩
  .have h1:¬ b<a:=fun c=>absurd (UInt8.lt_trans h c) (UInt8.lt_irrefl _)
   have d:a≠b:=UInt8.ne_of_lt h;have f:b≠a:=fun e=>d e.symm
   simp[Op.bytesLess,h1,d,f]
  .have:=Vn x y h
   simp only[beq_eq_false_iff_ne]at this;simp[Op.bytesLess,this.1,this.2]
theorem Hr:∀ x y:List UInt8,Op.bytesLess x y=true\/(x == y)=true\/Op.bytesLess y x=true
 | [],[]=>by simp
 | [],_::_=>by simp[Op.bytesLess]
 | _::_,[]=>by simp[Op.bytesLess]
 | a::x,b::y=>by
  have:=Hr x y;rcases Nat.lt_trichotomy a.toNat b.toNat with h|h|h
  .left
   simp[Op.bytesLess,UInt8.lt_iff_toNat_lt,h]
  .obtain rfl:a=b:=UInt8.toNat.inj h
   simpa [Op.bytesLess] using this
  .right;right
   simp[Op.bytesLess,UInt8.lt_iff_toNat_lt,h]
theorem Hs:∀ x y z:List UInt8,Op.bytesLess x y=true->Op.bytesLess y z=true->Op.bytesLess x z=true
 | _,_,[],_,h=>by cases h':‹List UInt8› <;> simp[Op.bytesLess]at h
 | _,[],_::_,h,_=>by simp[Op.bytesLess]at h
 | [],_::_,_::_,_,_=>by simp[Op.bytesLess]
 | a::x,b::y,c::z,h1,h2=>by
  simp only[Op.bytesLess,Bool.or_eq_true,Bool.and_eq_true,decide_eq_true_eq,beq_iff_eq]at h1 h2 ⊢;rcases h1 with h1|⟨rfl,h1⟩
  .rcases h2 with h2|⟨rfl,h2⟩
   .exact .inl (UInt8.lt_trans h1 h2)
   .exact .inl h1
  .rcases h2 with h2|⟨rfl,h2⟩
   .exact .inl h2
   .exact .inr ⟨rfl,Hs x y z h1 h2⟩
theorem b28 (a:Bool) (n:Nat):Ieee.Toward.even.cut a n 0=n:=by
 unfold Ieee.Toward.cut;simp[Nat.mod_one]
def Lt (k n:Nat):Nat:=(k+1022)*2 ^ 52+n*2 ^ (52-k)
theorem O8 {k n:Nat}(l:k<16) (h1:2 ^ k<=n) (h2:n<2 ^ (k+1)):FloatKind.nearest .f64 (n:Int)=Lt k n:=by
 have a:n≠0:=by have:=Nat.two_pow_pos k;omega
 have i:n.log2=k:=(Nat.log2_eq_iff a).2 ⟨h1,h2⟩;have f:¬ ((n:Int)<0):=by omega
 unfold FloatKind.nearest FloatKind.encode Ieee.Format.write Ieee.Format.nearest;simp only[FloatKind.format,Int.natAbs_natCast,if_neg a,i,decide_eq_false f];have b:max ((0:Int)+(k:Int)-(Ieee.double.fractionBits:Nat)) Ieee.double.leastPlace=(k:Int)-52:=by
  have:Ieee.double.leastPlace=-1074:=by decide
  rw[this];show max ((0:Int)+(k:Int)-52) (-1074)=_
  omega
 rw[b];have c:((0:Int)-((k:Int)-52)).toNat=52-k:=by omega
 have d:((k:Int)-52-0).toNat=0:=by omega
 have e:((k:Int)-52-Ieee.double.leastPlace).toNat=k+1022:=by
  have:Ieee.double.leastPlace=-1074:=by decide
  rw[this];omega
 rw[c,d,e,b28,Nat.shiftLeft_eq];have g:Ieee.double.binade=2 ^ 52:=rfl;have h:Ieee.double.infRung=2047*2 ^ 52:=rfl;rw[g,h];have j:n*2 ^ (52-k)<2 ^ 53:=by
  have:2 ^ (k+1)*2 ^ (52-k)=2 ^ 53:=by rw[<- Nat.pow_add];congr 1;omega
  rw[<- this];exact Nat.mul_lt_mul_of_pos_right h2 (Nat.two_pow_pos _)
 unfold Ieee.Format.word Lt;simp only[Bool.false_eq_true,if_false];rw[Nat.min_eq_left];omega
theorem On {k n:Nat}(j:k<16) (h1:2 ^ k<=n) (h2:n<2 ^ (k+1)):Ieee.double.read (Lt k n)=.number false (n*2 ^ (52-k)) ((k:Int)-52):=by
 have i:2 ^ 52<=n*2 ^ (52-k):=by
  have:2 ^ k*2 ^ (52-k)=2 ^ 52:=by rw[<- Nat.pow_add];congr 1;omega
  rw[<- this];exact Nat.mul_le_mul_right _ h1
 have h:n*2 ^ (52-k)<2 ^ 53:=by
  have:2 ^ (k+1)*2 ^ (52-k)=2 ^ 53:=by rw[<- Nat.pow_add];congr 1;omega
  rw[<- this];exact Nat.mul_lt_mul_of_pos_right h2 (Nat.two_pow_pos _)
 unfold Lt;generalize n*2 ^ (52-k)=m at *;have d:Ieee.double.signWeight=2 ^ 63:=rfl;have a:Ieee.double.binade=2 ^ 52:=rfl;have b:Ieee.double.infRung=2047*2 ^ 52:=rfl;have c:Ieee.double.leastPlace=-1074:=by decide
 unfold Ieee.Format.read;rw[d,a,b,c];have q1:((k+1022)*2 ^ 52+m) / 2 ^ 63 % 2=0:=by omega
 have q2:((k+1022)*2 ^ 52+m) % 2 ^ 63=(k+1022)*2 ^ 52+m:=by omega
 have q3:((k+1022)*2 ^ 52+m) / 2 ^ 52=k+1023:=by omega
 have e:((k+1022)*2 ^ 52+m) % 2 ^ 52=m-2 ^ 52:=by omega
 have f:¬ ((k+1022)*2 ^ 52+m<2 ^ 52):=by omega
 have g:(k+1022)*2 ^ 52+m<2047*2 ^ 52:=by omega
 show (if ((k+1022)*2 ^ 52+m) % 2 ^ 63<2 ^ 52 then _ else _)=_
 rw[q1,q2,q3,e,if_neg f,if_pos g];rw[show (2 ^ 52+(m-2 ^ 52):Nat)=m by omega,show (-1074:Int)+((k+1023-1:Nat):Int)=(k:Int)-52 by omega];rfl
theorem a10 {a b:Nat}(w:1<=a) (n:a<65536) (x:1<=b) (o:b<65536) :
  (Ieee.double.order (FloatKind.nearest .f64 (a:Int)) (FloatKind.nearest .f64 (b:Int)) == some .eq)=decide (a=b):=by
 have i:a.log2<16:=(Nat.log2_lt (by omega)).2 n;have l:b.log2<16:=(Nat.log2_lt (by omega)).2 o;have d:2 ^ a.log2<=a:=Nat.log2_self_le (by omega);have e:a<2 ^ (a.log2+1):=Nat.lt_log2_self;have f:2 ^ b.log2<=b:=Nat.log2_self_le (by omega);have g:b<2 ^ (b.log2+1):=Nat.lt_log2_self;rw[O8 i d e,O8 l f g];unfold Ieee.Format.order;rw[On i d e,On l f g];generalize a.log2=k at *;generalize b.log2=j at *;unfold Ieee.Datum.order Ieee.signed;simp only[Bool.false_eq_true,if_false];obtain⟨m,y⟩:∃ m:Nat,min k j=m:=⟨_,rfl⟩
 have r:((k:Int)-52-min ((k:Int)-52) ((j:Int)-52)).toNat=k-m:=by omega
 have s:((j:Int)-52-min ((k:Int)-52) ((j:Int)-52)).toNat=j-m:=by omega
 rw[r,s];have t:(a*2 ^ (52-k)) <<< (k-m)=a*2 ^ (52-m):=by
  rw[Nat.shiftLeft_eq,Nat.mul_assoc,<- Nat.pow_add];congr 2;omega
 have u:(b*2 ^ (52-j)) <<< (j-m)=b*2 ^ (52-m):=by
  rw[Nat.shiftLeft_eq,Nat.mul_assoc,<- Nat.pow_add];congr 2;omega
 rw[t,u];have v:=Nat.two_pow_pos (52-m);by_cases h:a=b
 .subst h
  simp
 .have p:((a*2 ^ (52-m):Nat):Int)≠((b*2 ^ (52-m):Nat):Int):=by
   intro c;have q:a*2 ^ (52-m)=b*2 ^ (52-m):=by omega
   exact h (Nat.eq_of_mul_eq_mul_right v q)
  rw[decide_eq_false h];simp only[beq_eq_false_iff_ne,ne_eq,Option.some.injEq];intro c;exact p (Std.LawfulEqCmp.eq_of_compare c)
def Tm (k:IntKind) (w:World) (a:Option Addr) (len cap:Nat) (zs:List Int):Prop :=
 (a=none/\len=0/\cap=0/\zs=[]) \/
 ∃ x,a=some x/\len<=cap/\cap<=maxLen/\zs.length=cap/\(∀ i,i<zs.length->w.cell? (x.add i)=some (.int k (zs.getD i 0)))/\∀ n ∈ zs,(Lit.int k n).wf=true
end Go.Proofs.YtjbmgghehdemdaaGreatDoor
