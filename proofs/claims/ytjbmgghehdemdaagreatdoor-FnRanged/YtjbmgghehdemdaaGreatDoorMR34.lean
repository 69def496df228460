/- IOpen7 -/
import Derived.Test.YtjbmgghehdemdaaGreatDoorMR29
import Derived.Test.YtjbmgghehdemdaaGreatDoorMR22
import Derived.Test.YtjbmgghehdemdaaGreatDoorMR33
namespace Go.Proofs.YtjbmgghehdemdaaGreatDoor
set_option maxRecDepth 100000
set_option maxHeartbeats 16000000
open _root_.Go.Proofs.Tryz
open Go.RowKit
def zIx:Value:=.agg #[.slice none 0 0,.bool false,.int .i64 0,.string ⟨#[]⟩,.slice none 0 0,.string ⟨#[]⟩,.int .i64 0,.slice none 0 0]
def ixV (ve:Value) (R:RA) (r:ByteArray) (vp:Value) (log:ByteArray) (syn:Int) (vr:Value):Value:=.agg #[ve,.bool R.sh,.int .i64 R.lv,.string r,vp,.string log,.int .i64 syn,vr]
def Ik (pb:Addr) (ev:Value):Prop:=ev=.iface 298 (.pointer (some pb))\/∃ k:Int,ev=.iface 98 (.agg #[.int .i64 k])
def ar9 (w:World) (R:RA) (r:ByteArray) (ss:List ByteArray) (log:ByteArray) (syn:Int) (pb:Addr) (e:Ending) (w':World):Prop :=
 (match dx R ss log with
  | some l=>∃ ve vp vr,e=.returned (.tuple #[ixV ve R r vp log syn vr,.nilIface])/\ac w' w.heap.size ve R.es/\ak w' w.heap.size vp ss/\Rws w' w.heap.size vr l
  | none=>∃ ev,e=.returned (.tuple #[zIx,ev])/\Ik pb ev)/\Below w.heap.size w w'
structure Hd7 (w u:World) (r:ByteArray) (vp:Value) (log:ByteArray) (syn:Int):Prop where
 disk:ba u w.heap.size r vp log syn
 ans:ny u (w.heap.size+1) (.slice none 0 0) false 0 ⟨#[]⟩ (.slice none 0 0) ⟨#[]⟩ 0 (.slice none 0 0)
 bel:Below w.heap.size w u
theorem Hd7.below {w u u':World} {r:ByteArray} {b:Value} {log:ByteArray} {syn:Int}(h:Hd7 w u r b log syn) (a:Below u.heap.size u u'):Hd7 w u' r b log syn:=⟨h.disk.below a,h.ans.below a,h.bel.trans (a.mono h.bel.size)⟩
theorem Hd7.set {w u:World} {r:ByteArray} {a:Value} {log:ByteArray} {syn:Int}(h:Hd7 w u r a log syn){b k:Nat}(c:w.heap.size+1<b) (x:Value):Hd7 w (u.setCell ⟨b,k,none⟩ x) r a log syn :=
 ⟨(heap_setCell_other u ⟨b,k,none⟩ w.heap.size x (by show w.heap.size≠b;omega)).trans h.disk,(heap_setCell_other u ⟨b,k,none⟩ (w.heap.size+1) x (by show w.heap.size+1≠b;omega)).trans h.ans,h.bel.setCell (p:=⟨b,k,none⟩) (by show w.heap.size<=b;omega) _⟩
def set8 (u:World) (p:Nat) (a b c d e f g h:Value):World:=(((((((u.setCell ⟨p,0,none⟩ a).setCell ⟨p,1,none⟩ b).setCell ⟨p,2,none⟩ c).setCell ⟨p,3,none⟩ d).setCell ⟨p,4,none⟩ e).setCell ⟨p,5,none⟩ f).setCell ⟨p,6,none⟩ g).setCell ⟨p,7,none⟩ h
theorem wg (u:World) (p:Nat) (a b c d e f g h:Value):u.grownBy (set8 u p a b c d e f g h) (some p) :=
 (((((((dq u p 0 a).trans (dq _ p 1 b)).trans (dq _ p 2 c)).trans (dq _ p 3 d)).trans (dq _ p 4 e)).trans (dq _ p 5 f)).trans (dq _ p 6 g)).trans (dq _ p 7 h)
theorem ro {w u:World} {p:Nat}(h:Below w.heap.size w u) (i:w.heap.size<=p) (a b c d e f g k:Value):Below w.heap.size w (set8 u p a b c d e f g k) :=
 Below.grown h (wg u p a b c d e f g k) h.size (fun j hj=>by have:=Option.some.inj hj;omega)
theorem Ex {R:RA} {ss:List ByteArray} {log:ByteArray}(h:ca ss=none):dx R ss log=none:=by unfold dx;rw[h]
theorem Ey {R:RA} {ss:List ByteArray} {log:ByteArray}(h:R.code≠0):dx R ss log=none:=by
 unfold dx;split
 .rfl
 .rw[if_neg (fun c=>h c.1)]
theorem Ez {R:RA} {ss:List ByteArray} {log:ByteArray} {gs:List (List Rw)}(h:ca ss=some gs) (a:iy R gs.flatten=false):dx R ss log=none:=by
 unfold dx;rw[h];show (if _ then _ else _)=none
 rw[if_neg (fun c=>by rw[a]at c;exact absurd c.2.1 (by simp))]
theorem F4 {R:RA} {ss:List ByteArray} {log:ByteArray}(h:¬ log.size<=6000):dx R ss log=none:=by
 unfold dx;split
 .rfl
 .rw[if_neg (fun c=>h c.2.2)]
theorem Kp {R:RA} {ss:List ByteArray} {log:ByteArray} {gs:List (List Rw)}(h:ca ss=some gs) (h0:R.code=0) (a:iy R gs.flatten=true) (b:log.size<=6000):dx R ss log=(jd log).bind (oq R gs.flatten):=by
 unfold dx;rw[h];show (if _ then _ else _)=_
 rw[if_pos ⟨h0,a,b⟩];rfl
theorem a30 {R:RA} {l:List Rw} {os:List Dn} {k:Nat} {o:Dn}(h:os[k]? = some o):oq R l (os.drop k)=if apC R l o=0 then oq R (apR R l o) (os.drop (k+1)) else none:=by
 obtain⟨a,rfl⟩:=List.getElem?_eq_some_iff.1 h;rw[List.drop_eq_getElem_cons a];rfl
theorem Sz:∀ (f:Nat) (s:ByteArray) (os:List Dn),n9 f s=some os->∀ o ∈ os,o.text.size<=255/\o.val.size<=255
 | 0,s,os,h=>by
  unfold n9 at h;split at h
  .cases h;simp
  .cases h
 | f+1,s,os,h=>by
  unfold n9 at h;split at h
  .cases h;simp
  .cases hr:bq s with
   | none=>rw[hr]at h;cases h
   | some p =>
    obtain⟨o,n⟩:=p;rw[hr]at h
    cases hf:n9 f (s.extract n s.size) with
    | none=>simp only[hf]at h;cases h
    | some os' =>
     simp only[hf,Option.map_some]at h
     cases h
     intro q a;rcases List.mem_cons.1 a with rfl|a
     .exact⟨(T5 hr).1,(T5 hr).2.1⟩
     .exact Sz f _ _ hf q a
def aj7 (w W:World) (bi:Nat) (ve:Value) (R:RA) (r:ByteArray) (vd:Value) (vp:Value) (ss:List ByteArray) (log:ByteArray) (syn:Int) (vo:Value) (os:List Dn) (ANS:Option (List Rw)) (i:Value) (wr:World):Prop :=
 ∃ (k:Nat) (vr:Value) (l:List Rw),k<=os.length/\i=.int .i64 (k:Int)/\Ix7 wr w.heap.size bi ve R r vp ss log syn vr l/\Hd7 w wr r vd log syn/\Dos wr W.heap.size vo os/\im R l/\oq R l (os.drop k)=ANS
structure qt (w:World) (ty:TypeId) (pv:Value) (pb pl pf pn:Addr):Prop where
 tabs:dr w
 lack:f7 w ty pv
 errs:Ev7 w pb pl pf pn
theorem qt.below {w w':World} {ty:TypeId} {pv:Value} {pb pl pf pn:Addr}(h:qt w ty pv pb pl pf pn) (a:Below w.heap.size w w'):qt w' ty pv pb pl pf pn :=
 ⟨h.tabs.below a,(a.cell (p:=⟨6,0,none⟩) h.lack.lt).trans h.lack,h.errs.below a⟩
structure Dk7 (w:World) (B:Nat) (vd:Value) (d:Ds7):Prop where
 pages:ak w B vd d.ss
 ok:Ok7 d
theorem Dk7.below {w w':World} {B:Nat} {a:Value} {d:Ds7}(h:Dk7 w B a d) (b:Below w.heap.size w w'):Dk7 w' B a d:=⟨h.pages.below b,h.ok⟩
theorem Dk7.form {w:World} {B:Nat} {b:Value} {d:Ds7}(h:Dk7 w B b d):∃ a c,b=.slice a d.ss.length c:=by
 obtain⟨a,c,e,_⟩:=js h.pages;exact⟨a,c,e⟩
def cm (d:Ds7):Option (List Rw):=if ov d=true then fu d else none
theorem ad8 {d:Ds7}(h:¬ (0<=d.syn/\d.syn<=(d.log.size:Int))):cm d=none:=by
 unfold cm ov;rw[if_neg (by simpa using h)]
theorem a09 {d:Ds7}(h:0<=d.syn/\d.syn<=(d.log.size:Int)):cm d=fu d:=by
 unfold cm ov;rw[if_pos (by simpa using h)]
theorem l8 {d:Ds7} {l:List Rw}(h:cm d=some l):ov d=true/\fu d=some l:=by
 unfold cm at h;split at h
 .rename_i hs
  exact⟨hs,h⟩
 .cases h
theorem nu {d:Ds7} {l:List Rw}(h:fu d=some l):ay (aa d.r).es (aa d.r).lv=true:=by
 unfold fu dx at h;split at h
 .cases h
 .split at h
  .rename_i hc
   exact (B0 d.r hc.1).1
  .cases h
theorem I0 {R:RA} {ss:List ByteArray} {gs:List (List Rw)}(b:q9 ss) (a:ca ss=some gs) (h:iy R gs.flatten=true):im R gs.flatten:=by
 have d:=(uz a).1;refine⟨wl d.pw,(b gs a).1,fun x hx=>?_,fun x hx=>?_⟩
 .obtain⟨g,f,e⟩:=List.mem_flatten.1 hx
  have c:=(oh.1 (d.good g f).1).2.1 x e;unfold sz1 at c;rw[Bool.and_eq_true,Bool.and_eq_true,decide_eq_true_eq]at c;exact⟨((b gs a).2 x hx).1,((b gs a).2 x hx).2,c.1.1⟩
 .have:=List.all_eq_true.1 h x hx
  simpa using this
def OpQ (w:World) (o:Option (List Rw)) (d:Ds7) (pb:Addr) (e:Ending) (w':World):Prop :=
 (match o with
  | some l=>∃ ve vp vr,e=.returned (.tuple #[ixV ve (aa d.r) d.r vp d.log d.syn vr,.nilIface])/\ac w' w.heap.size ve (aa d.r).es/\ak w' w.heap.size vp d.ss/\Rws w' w.heap.size vr l
  | none=>∃ ev,e=.returned (.tuple #[zIx,ev])/\Ik pb ev)/\Below w.heap.size w w'
theorem Zi {u:World} {p:Nat} {cs:Array Value} {t:TypeId}(D:cs.size=8) (h:u.heap[p]? = some (.cells cs t)) (a b c d e f g k:Value):(set8 u p a b c d e f g k).heap[p]? = some (.cells #[a,b,c,d,e,f,g,k] t):=by
 obtain⟨i,j,m,n,o,q,r,s,rfl⟩:∃ i j m n o q r s,cs=#[i,j,m,n,o,q,r,s]:=by
  obtain⟨l⟩:=cs;match l,D with
  | [i,j,m,n,o,q,r,s],_=>exact⟨i,j,m,n,o,q,r,s,rfl⟩
 have v:=heap_setCell_same u p 0 _ _ a h;have w:=heap_setCell_same _ p 1 _ _ b v;have x:=heap_setCell_same _ p 2 _ _ c w;have y:=heap_setCell_same _ p 3 _ _ d x;have z:=heap_setCell_same _ p 4 _ _ e y;have A:=heap_setCell_same _ p 5 _ _ f z;have B:=heap_setCell_same _ p 6 _ _ g A;have C:=heap_setCell_same _ p 7 _ _ k B;unfold set8;rw[C];simp
theorem b13 {u:World} {a p:Nat} {j k vr:Value} {es:List Ent} {ss:List ByteArray} {l:List Rw} {cs:Array Value}(h1:ac u a j es) (h2:ak u a k ss) (i:Rws u a vr l) (h:u.heap[p]? = some (.cells cs 71)) (b c a3 a4 a5 d e f:Value) :
  ac (set8 u p b c a3 a4 a5 d e f) a j es/\ak (set8 u p b c a3 a4 a5 d e f) a k ss/\Rws (set8 u p b c a3 a4 a5 d e f) a vr l :=
 have g:=wg u p b c a3 a4 a5 d e f;⟨h1.boxT h (by decide) (by decide) g,World.ownsRow.kept h2 g (iw h2 h (by decide)),World.ownsRow.kept i g (iw i h (by decide))⟩
theorem Nn {u:World} {a:Nat} {c:Value} {R:RA} {r:ByteArray} {d:Value} {ss:List ByteArray} {log:ByteArray} {syn:Int} {vr:Value} {l:List Rw}(h1:ac u a c R.es) (h2:ak u a d ss) (f:Rws u a vr l) (e:a<=u.heap.size) :
  Ix7 (u.alloc (.cells #[c,.bool R.sh,.int .i64 R.lv,.string r,d,.string log,.int .i64 syn,vr] 71)) a u.heap.size c R r d ss log syn vr l :=
 have b:=(Below.refl u.heap.size u).alloc bR (.cells #[c,.bool R.sh,.int .i64 R.lv,.string r,d,.string log,.int .i64 syn,vr] 71);⟨heap_alloc_new u _,h1.below b,h2.below b,f.below b,e⟩
def as3 (w:World) (R:RA) (ss:List ByteArray) (log:ByteArray) (e:Ending) (w':World):Prop :=
 ∃ ve vr,e=.returned (.tuple #[.agg #[ve,.bool R.sh,.int .i64 R.lv],vr,.bool (dx R ss log).isSome])/\ac w' w.heap.size ve R.es/\Rws w' w.heap.size vr ((dx R ss log).getD [])/\Below w.heap.size w w'
theorem jf.free {u:World} {p:Nat} {v:Value} {sh:Bool} {lv:Int}(h:jf u p v sh lv) (j:Nat):u.frozen? ⟨p,j,none⟩=false:=frozen_of_row _ _ j _ _ h
structure Hs7 (w u:World) (br:Nat) (r:ByteArray) (vp:Value) (log:ByteArray) (syn:Int) (ve:Value) (R:RA):Prop where
 disk:ba u w.heap.size r vp log syn
 ans:jf u (w.heap.size+1) (.slice none 0 0) false 0
 rul:jf u br ve R.sh R.lv
 ents:ac u w.heap.size ve R.es
 bel:Below w.heap.size w u
theorem Hs7.below {w u u':World} {b:Nat} {r:ByteArray} {d:Value} {log:ByteArray} {syn:Int} {c:Value} {R:RA}(h:Hs7 w u b r d log syn c R) (a:Below u.heap.size u u'):Hs7 w u' b r d log syn c R :=
 ⟨h.disk.below a,h.ans.below a,h.rul.below a,h.ents.below a,h.bel.trans (a.mono h.bel.size)⟩
def Gb (u:World) (p:Nat) (a b c:Value):World:=((u.setCell ⟨p,0,none⟩ a).setCell ⟨p,1,none⟩ b).setCell ⟨p,2,none⟩ c
theorem Ib (u:World) (p:Nat) (a b c:Value):u.grownBy (Gb u p a b c) (some p):=((dq u p 0 a).trans (dq _ p 1 b)).trans (dq _ p 2 c)
theorem Hs7.done {w u:World} {c:Nat} {r:ByteArray} {d:Value} {log:ByteArray} {syn:Int} {a:Value} {R:RA}(h:Hs7 w u c r d log syn a R){vr:Value} {l:List Rw}(b:Rws u w.heap.size vr l) :
  ac (Gb u (w.heap.size+1) a (.bool R.sh) (.int .i64 R.lv)) w.heap.size a R.es/\Rws (Gb u (w.heap.size+1) a (.bool R.sh) (.int .i64 R.lv)) w.heap.size vr l/\Below w.heap.size w (Gb u (w.heap.size+1) a (.bool R.sh) (.int .i64 R.lv)) :=
 have g:=Ib u (w.heap.size+1) a (.bool R.sh) (.int .i64 R.lv);⟨h.ents.boxT h.ans (by decide) (by decide) g,World.ownsRow.kept b g (iw b h.ans (by decide)),Below.grown h.bel g h.bel.size (fun j hj=>by have:=Option.some.inj hj;omega)⟩
theorem f6 {b:Func} {p u u2:Tmp} {ty:TypeId}(h:b.results=#[.cell p ty,.tmp u,.tmp u2]) (tmps:Array Value) (P:Program) (w:World) :
  (results b tmps).run P w=((asAddr (tmps.getD p undef)).run P w).andThen fun a w₁=>((loadVar ty a).run P w₁).andThen fun v w₂=>.ok (.tuple #[v,tmps.getD u undef,tmps.getD u2 undef]) w₂:=by
 simp only[results,h];simp[Sem.run_bind,Result.andThen]
theorem Hs7.grown {w u u':World} {c B:Nat} {r:ByteArray} {i:Value} {log:ByteArray} {syn:Int} {f:Value} {R:RA} {v:Value} {l:List Rw}(h:Hs7 w u c r i log syn f R) (n:Rws u B v l) (x:w.heap.size<=B) (g:u.grownBy u' v.ownBlock):Hs7 w u' c r i log syn f R:=by
 rcases n.2 with ⟨rfl,_⟩|⟨gb,o,q,rfl,s,d,_⟩
 .exact h.below (Below.grown bX g bR (fun j hj=>by cases hj))
 .have b:∀ (p:Nat) (a:Array Value) (t:TypeId),37≠t->u.heap[p]? = some (.cells a t (0,0))->u'.heap[p]? = some (.cells a t (0,0)):=fun p a t ht hp=>by
   refine (g.block p (Array.getElem?_eq_some_iff.1 hp).1 (fun e=>?_)).trans hp;have:p=gb:=Option.some.inj e;subst this;rw[d]at hp;injection hp with k;injection k with _ m _;exact ht m
  exact⟨b _ _ _ (by decide) h.disk,b _ _ _ (by decide) h.ans,b _ _ _ (by decide) h.rul,h.ents.boxT d (by decide) (by decide) g,Below.grown h.bel g h.bel.size (fun j hj=>by have:gb=j:=Option.some.inj hj;omega)⟩
theorem ot (u:World) (B:Nat):Rws u B (.slice none 0 0) []:=World.ownsRow_nil _ _ _ _
theorem Uk (gs:List (List Rw)) (k:Nat):(gs.take k).flatten.length<=gs.flatten.length:=by
 have h:gs.flatten=(gs.take k).flatten++(gs.drop k).flatten:=by rw[<- List.flatten_append,List.take_append_drop]
 rw[h,List.length_append];omega
def Xr (w w2:World) (br:Nat) (r:ByteArray) (vd:Value) (log:ByteArray) (syn:Int) (ve:Value) (R:RA) (f:Nat->List Rw) (m:Nat) (v i:Value) (wr:World):Prop :=
 ∃ k:Nat,k<=m/\i=.int .i64 (k:Int)/\Rws wr w2.heap.size v (f k)/\Hs7 w wr br r vd log syn ve R/\Below w2.heap.size w2 wr/\∀ x ∈ f k,bh R x.text=x.key
def as2 (w:World) (br:Nat) (r:ByteArray) (vd:Value) (log:ByteArray) (syn:Int) (ve:Value) (R:RA) (ANS:Option (List Rw)) (v sv:Value) (wr:World):Prop :=
 ∃ (l:List Rw) (s:ByteArray),sv=.string s/\Rws wr w.heap.size v l/\Hs7 w wr br r vd log syn ve R/\im R l/\s.size<=6000/\pj R l s=ANS
theorem Zp {R:RA} {l:List Rw}(h:∀ x ∈ l,bh R x.text=x.key):iy R l=true:=by
 unfold iy;rw[List.all_eq_true];exact fun x hx=>decide_eq_true (h x hx)
theorem Zq {R:RA} {l:List Rw} {x:Rw}(h:x ∈ l) (a:bh R x.text≠x.key):iy R l=false:=by
 unfold iy;rw[List.all_eq_false];exact⟨x,h,by simpa using a⟩
theorem Uj {gs:List (List Rw)} {k:Nat} {g:List Rw}(h:gs[k]? = some g):(gs.take k).flatten++g=(gs.take (k+1)).flatten:=by
 rw[List.take_add_one,h];simp
theorem Q9 {ss:List ByteArray} {gs:List (List Rw)}(d:ca ss=some gs):∀ x ∈ gs.flatten,x.key.size<=200:=fun x hx=>by
 have c:=(uz d).1;obtain⟨g,e,b⟩:=List.mem_flatten.1 hx;have a:=(oh.1 (c.good g e).1).2.1 x b;unfold sz1 at a;rw[Bool.and_eq_true,Bool.and_eq_true,decide_eq_true_eq]at a;exact a.1.1
theorem Vy {w:World} {B:Nat} {vd:Value} {ss:List ByteArray}(r log:ByteArray) (syn:Int) (hr:r.size<=1048576) (co:log.size<=1048576) (hS:ak w B vd ss) (hz:∀ s ∈ ss,s.size<=1048576) (hl:ss.length<=1048576) (a9:q9 ss) :
  Calls prog 32 #[.agg #[.string r,vd,.string log,.int .i64 syn]] w fun e w'=>as3 w (aa r) ss log e w':=by
 obtain⟨t,z,cf,_⟩:=js hS;subst cf;obtain⟨W0,hW⟩:∃ W0,W0=(w.alloc (.cells #[.string r,.slice t ss.length z,.string log,.int .i64 syn] 25)).alloc (.cells #[.slice none 0 0,.bool false,.int .i64 0] 56):=⟨_,rfl⟩
 have bv:Below w.heap.size w W0:=by rw[hW];exact (bY _).alloc (by simp) _
 have cv:W0.heap.size=w.heap.size+2:=by rw[hW];simp
 have b6:ba W0 w.heap.size r (.slice t ss.length z) log syn:=by
  show _=_
  rw[hW,Below.heap_alloc _ _ _ (by simp)];exact heap_alloc_new w _
 have bu:jf W0 (w.heap.size+1) (.slice none 0 0) false 0:=by
  have h:=heap_alloc_new (w.alloc (.cells #[.string r,.slice t ss.length z,.string log,.int .i64 syn] 25)) (.cells #[.slice none 0 0,.bool false,.int .i64 0] 56);rw[World.size_alloc]at h;show _=_
  rw[hW];exact h
 have aD:Hid (∀ u,Below w.heap.size w u->ak u B (.slice t ss.length z) ss):=fun u hu=>hS.below hu
 obtain⟨R,G⟩:∃ R,R=aa r:=⟨_,rfl⟩
 obtain⟨a8,a7⟩:∃ c,c=R.code:=⟨_,rfl⟩
 have RD:Calls prog 23 #[.string r] W0 fun e w'=>∃ vE,e=.returned (.tuple #[.agg #[vE,.bool R.sh,.int .i64 R.lv],.int .i64 a8])/\ac w' W0.heap.size vE R.es/\Below W0.heap.size W0 w':=by rw[a7,G];exact Fy r W0 (by omega)
 rw[<- G];have aN:Hid (a8=0->ay R.es R.lv=true):=fun h=>by rw[a7,G]at h;rw[G];exact (B0 r h).1
 have aq:Hid (a8=R.code):=a7;have HZ:Hid (∀ s ∈ ss,s.size<=1048576):=hz;have av:Hid (q9 ss):=a9;have aX:Hid (ba W0 w.heap.size r (.slice t ss.length z) log syn):=b6;have bg:Hid (jf W0 (w.heap.size+1) (.slice none 0 0) false 0):=bu;have aW:Hid (Below w.heap.size w W0):=bv;have HW:Hid (W0=(w.alloc (.cells #[.string r,.slice t ss.length z,.string log,.int .i64 syn] 25)).alloc (.cells #[.slice none 0 0,.bool false,.int .i64 0] 56)):=hW;obtain⟨bc,d0,d1,d2,d3,df⟩:=b6.facts;clear hS hz a9 b6 bu bv hW G a7;go_enter func32,ntmps32;go_wp2_with fail;rw[<- HW.out];clear HW;go_wp2_with fail;refine RD.mono ?_;rintro e A ⟨v1,rfl,e1,b1⟩;obtain⟨a,d,cc⟩:=cu e1;subst cc;obtain⟨W1,aU⟩:∃ W1,W1=A.alloc (.cells #[.slice a R.es.length d,.bool R.sh,.int .i64 R.lv] 56):=⟨_,rfl⟩
 have bA:Below A.heap.size A W1:=by rw[aU];exact bY _
 have aR:Below W0.heap.size W0 W1:=b1.trans (bA.mono b1.size);have ci:w.heap.size+1<A.heap.size:=by have:=b1.size;omega
 have aS:Hs7 w W1 A.heap.size r (.slice t ss.length z) log syn (.slice a R.es.length d) R:=⟨aX.out.below aR,bg.out.below aR,by show _=_;rw[aU];exact heap_alloc_new A _,ac.low (e1.below bA) (by omega),aW.out.trans (aR.mono aW.out.size)⟩;have OB:=Rs (aD.out W1 aS.bel) HZ.out hl;obtain⟨bc,d0,d1,d2,d3,df⟩:=(aX.out.below b1).facts;have aJ:Hid (Hs7 w W1 A.heap.size r (.slice t ss.length z) log syn (.slice a R.es.length d) R):=aS;have bs:Hid (W1=A.alloc (.cells #[.slice a R.es.length d,.bool R.sh,.int .i64 R.lv] 56)):=aU;have ch:w.heap.size<=W1.heap.size:=aS.bel.size;clear RD e1 b1 bA aR aS aU;go_wp2_with fail;rw[<- bs.out];refine OB.mono ?_;rintro e C ⟨v2,rfl,hN,b2⟩;have I:Hid (Hs7 w C A.heap.size r (.slice t ss.length z) log syn (.slice a R.es.length d) R):=aJ.out.below b2;obtain⟨bc,d0,d1,d2,d3,df⟩:=I.out.disk.facts
 clear OB b2 aJ bs aX bg aW
 cases hbk:ca ss with
 | none =>
  have D:Hid (dx R ss log=none):=Ex hbk;have bW:((none:Option (List (List Rw))).isSome)=false:=rfl;clear hN hbk aD HZ av aN;by_cases P:a8=0
  .subst P
   clear aq;obtain⟨a4,ah,ai,aj⟩:=I.out.ans.facts;have a3:=I.out.ans.free;obtain⟨a5,ab,ae,af⟩:=I.out.rul.facts;obtain⟨m,q,g⟩:=I.out.done (ot _ _);have K:Hid (ac _ _ _ _):=m;have L:Hid (Rws _ _ _ _):=q;have M:Hid _:=g;clear m q g;go_wp2;refine bodyPost_ret (v:=.tuple #[.agg #[.slice a R.es.length d,.bool R.sh,.int .i64 R.lv],.slice none 0 0,.bool false]) ?_ rfl ⟨.slice a R.es.length d,.slice none 0 0,by rw[D.out];rfl,K.out,by rw[D.out];exact L.out,M.out⟩;rw[f6 rfl];go_simp
  .have bU:(a8 != 0)=true:=by simpa using P
   clear aq P;obtain⟨a4,ah,ai,aj⟩:=I.out.ans.facts;have a3:=I.out.ans.free;obtain⟨a5,ab,ae,af⟩:=I.out.rul.facts;obtain⟨m,q,g⟩:=I.out.done (ot _ _);have K:Hid (ac _ _ _ _):=m;have L:Hid (Rws _ _ _ _):=q;have M:Hid _:=g;clear m q g;go_wp2;refine bodyPost_ret (v:=.tuple #[.agg #[.slice a R.es.length d,.bool R.sh,.int .i64 R.lv],.slice none 0 0,.bool false]) ?_ rfl ⟨.slice a R.es.length d,.slice none 0 0,by rw[D.out];rfl,K.out,by rw[D.out];exact L.out,M.out⟩;rw[f6 rfl];go_simp
 | some f =>
  have bW:((some f:Option (List (List Rw))).isSome)=true:=rfl;obtain⟨vs,N2⟩:=hN f hbk;have aI:Hid (ca ss=some f):=hbk;by_cases P:¬ a8=0
  .have bU:(a8 != 0)=true:=by simpa using P
   have D:Hid (dx R ss log=none):=Ey (fun c=>P (aq.out.trans c));clear aq P N2 hN aD HZ av aN hbk;obtain⟨a4,ah,ai,aj⟩:=I.out.ans.facts;have a3:=I.out.ans.free;obtain⟨a5,ab,ae,af⟩:=I.out.rul.facts;obtain⟨m,q,g⟩:=I.out.done (ot _ _);have K:Hid (ac _ _ _ _):=m;have L:Hid (Rws _ _ _ _):=q;have M:Hid _:=g;clear m q g;go_wp2;refine bodyPost_ret (v:=.tuple #[.agg #[.slice a R.es.length d,.bool R.sh,.int .i64 R.lv],.slice none 0 0,.bool false]) ?_ rfl ⟨.slice a R.es.length d,.slice none 0 0,by rw[D.out];rfl,K.out,by rw[D.out];exact L.out,M.out⟩;rw[f6 rfl];go_simp
  replace P:a8=0:=Decidable.not_not.1 P;have bo:Hid (R.code=0):=aq.out.symm.trans P;have bB:=aN.out P;clear aq aN;subst P;by_cases h6:¬ log.size<=6000
  .have bd:(6000:Int)<(log.size:Int):=by omega
   have D:Hid (dx R ss log=none):=F4 h6;clear h6 N2 hN aD HZ av hbk;obtain⟨a4,ah,ai,aj⟩:=I.out.ans.facts;have a3:=I.out.ans.free;obtain⟨a5,ab,ae,af⟩:=I.out.rul.facts;obtain⟨m,q,g⟩:=I.out.done (ot _ _);have K:Hid (ac _ _ _ _):=m;have L:Hid (Rws _ _ _ _):=q;have M:Hid _:=g;clear m q g;go_wp2;refine bodyPost_ret (v:=.tuple #[.agg #[.slice a R.es.length d,.bool R.sh,.int .i64 R.lv],.slice none 0 0,.bool false]) ?_ rfl ⟨.slice a R.es.length d,.slice none 0 0,by rw[D.out];rfl,K.out,by rw[D.out];exact L.out,M.out⟩;rw[f6 rfl];go_simp
  replace h6:log.size<=6000:=Decidable.not_not.1 h6;have bd:¬ (6000:Int)<(log.size:Int):=by omega
  have aP:Hid (f.flatten.length<=60/\∀ x ∈ f.flatten,x.text.size<=60/\x.val.size<=60):=av.out f hbk;have bm:Hid (∀ x ∈ f.flatten,x.key.size<=200):=Q9 hbk;obtain⟨cm,aE⟩:=Md hbk;have bk:Hid (∀ l ∈ f,l.length<=60):=aE;obtain⟨a2,c2,ce,fm⟩:=N2.form;subst ce;have bn:Hid (bj C W1.heap.size C.heap.size (.slice a2 f.length c2) f vs):=N2;have bi:Hid _:=fm;clear hN N2 fm hbk aE aD HZ;go_wp2_with fail;go_loopw [9,48] (fun v i wr=>Xr w C A.heap.size r (.slice t ss.length z) log syn (.slice a R.es.length d) R (fun k=>(f.take k).flatten) f.length v i wr) (fun _ i _=>f.length-(intOf i).toNat)
  case atStart=>exact⟨0,Nat.zero_le _,rfl,World.ownsRow_nil _ _ _ _,I.out,bX,fun x Q=>by simp at Q⟩
  case round =>
   obtain⟨k,hk,rfl,G,J,W,Y⟩:=hrel;by_cases c7:k<f.length
   .obtain⟨l,aG⟩:∃ l,f[k]? = some l:=by exact⟨_,List.getElem?_eq_getElem c7⟩
    obtain⟨x,Q,hI,_⟩:=bn.out.ins k l aG;obtain⟨gb,rfl,_,c3,cb,_⟩:=bi.out k x Q;have bT:wr.cell? ⟨gb,k,none⟩=some x:=(W.cell (p:=⟨gb,k,none⟩) c3).trans cb;have c4:=ag bT;have c8:(k:Int)<(f.length:Int):=by omega
    have c6:=bk.out l (List.mem_of_getElem? aG);obtain⟨ax,cx,rfl⟩:=bz hI;have bQ:Hid (∀ u,Below C.heap.size C u->dd u ax l):=fun u hu=>ew (hI.below hu)
    have br:Hid ((f.take k).flatten++l=(f.take (k+1)).flatten):=Uj aG;have bN:Hid (∀ x ∈ l,x ∈ f.flatten):=fun x Q=>List.mem_flatten.2 ⟨l,List.mem_of_getElem? aG,Q⟩
    have bV:(f.take k).flatten.length<=60:=Nat.le_trans (Uk f k) aP.out.1;obtain⟨T,bG⟩:∃ T,Hid ((f.take k).flatten=T):=⟨_,rfl⟩
    have O:Rws wr C.heap.size u9 ((f.take k).flatten):=G;have V:∀ x ∈ (f.take k).flatten,bh R x.text=x.key:=Y
    rw[bG.out]at O bV br V;have HR:Hid (Rws wr C.heap.size u9 T):=O;have HB:Hid (Below C.heap.size C wr):=W;have S:Hid (Hs7 w wr A.heap.size r (.slice t ss.length z) log syn (.slice a R.es.length d) R):=J;have bM:Hid (∀ x ∈ T,bh R x.text=x.key):=V;obtain⟨w6,rfl⟩:∃ w6,w6=wr:=⟨_,rfl⟩
    clear G O W hI Q aG cb Y V J;go_wp2_with fail;go_loopw [9,54] (fun v i wr=>Xr w C A.heap.size r (.slice t ss.length z) log syn (.slice a R.es.length d) R (fun k=>T++l.take k) l.length v i wr) (fun _ i _=>l.length-(intOf i).toNat)
    case atStart=>exact⟨0,Nat.zero_le _,rfl,by simpa using HR.out,S.out,HB.out,by simpa using bM.out⟩
    case round =>
     obtain⟨j,hj,rfl,G,J,W,Y⟩:=hrel;by_cases c5:j<l.length
     .obtain⟨x,Q⟩:∃ x,l[j]? = some x:=by exact⟨_,List.getElem?_eq_getElem c5⟩
      rcases bQ.out wr W with P|⟨b,o,rfl,hE⟩
      .rw[P]at Q;simp at Q
      obtain⟨a0,a1,a2⟩:=hE j x Q;have ck:=ag a0;have cn:(j:Int)<(l.length:Int):=by omega
      have bf:=bN.out x (List.mem_of_getElem? Q);obtain⟨bC,cA⟩:=aP.out.2 x bf;have cj:¬ (60:Int)<(x.val.size:Int):=by omega
      have aF:=bm.out x bf;have b5:Below wr.heap.size wr (wr.alloc (.cells #[.string x.key,.string x.text,.string x.val] 37)):=bY _;have bb:=J.below b5;have X:=Cj x.text (by omega) bb.ents bB;rw[if_pos bC]at X;obtain⟨aA,u0,u1,u2⟩:=J.rul.facts;have aw:Hid (di (wr.alloc (.cells #[.string x.key,.string x.text,.string x.val] 37)) wr.heap.size x):=ky wr x;have aQ:Hid (l[j]? = some x):=Q;obtain⟨F1,aY⟩:∃ F1,Hid (T++l.take j=F1):=⟨_,rfl⟩
      have O:Rws wr C.heap.size u9 F1:=by rw[<- aY.out];exact G
      have bx:F1.length<=200:=by rw[<- aY.out,List.length_append,List.length_take];omega
      obtain⟨Z,rc,hv⟩:=bz O;subst hv;have aL:Hid (Rws (wr.alloc (.cells #[.string x.key,.string x.text,.string x.val] 37)) C.heap.size (.slice Z F1.length rc) F1):=O.below b5;have ar:Hid (Hs7 w (wr.alloc (.cells #[.string x.key,.string x.text,.string x.val] 37)) A.heap.size r (.slice t ss.length z) log syn (.slice a R.es.length d) R):=bb;have am:Hid (Below C.heap.size C (wr.alloc (.cells #[.string x.key,.string x.text,.string x.val] 37))):=W.trans (b5.mono W.size);have aZ:Hid (∀ x ∈ T++l.take j,bh R x.text=x.key):=Y;clear G O W hE Q J bb b5 Y;by_cases ao:bh R x.text=x.key
      .have a6:gn R x.text=true:=by unfold gn;rw[ao,decide_eq_true bC,decide_eq_true aF];rfl
       rw[a6,ao]at X;have bL:Hid (∀ y ∈ T++l.take (j+1),bh R y.text=y.key):=fun y hy=>by
        rw[List.take_add_one,aQ.out,<- List.append_assoc]at hy;rcases List.mem_append.1 hy with hy|hy
        .exact aZ.out y hy
        .obtain rfl:y=x:=by simpa using hy
         exact ao
       have bO:Hid (T++l.take (j+1)=F1++[x]):=by show _=_;rw[<- aY.out,List.take_add_one,aQ.out,List.append_assoc];rfl
       clear ao a6 aZ aQ;go_wp2_with fail;refine X.mono ?_;rintro e E ⟨rfl,H⟩;have U:=aw.out.below H;obtain⟨e0,e1,e2⟩:=U.cells;have bw:=U.lt;have bA:=(Below.refl E.heap.size E).alloc bR (.cells #[.string x.key,.string x.text,.string x.val] 37);have bt:Hid (SlV (E.alloc (.cells #[.string x.key,.string x.text,.string x.val] 37)) (.slice (some ⟨E.heap.size,0,none⟩) 1 1) [x]):=(gg E _ E.heap.size x rfl bR).slV;have aM:Hid (Rws (E.alloc (.cells #[.string x.key,.string x.text,.string x.val] 37)) C.heap.size (.slice Z F1.length rc) F1):=(aL.out.below H).below bA;have bl:Hid (Hs7 w (E.alloc (.cells #[.string x.key,.string x.text,.string x.val] 37)) A.heap.size r (.slice t ss.length z) log syn (.slice a R.es.length d) R):=(ar.out.below H).below bA
       have aH:Hid (Below C.heap.size C (E.alloc (.cells #[.string x.key,.string x.text,.string x.val] 37))):=(am.out.trans (H.mono am.out.size)).trans (bA.mono (am.out.trans (H.mono am.out.size)).size);clear X H bA U aw aL ar am u0 u1 u2 aA a0 a1 a2;go_wp2_with (at_builtin;refine ef rfl _ _ rfl C.heap.size (.slice Z F1.length rc) (.slice (some ⟨E.heap.size,0,none⟩) 1 1) F1 [x] rfl rfl aM.out bt.out (by simp;omega) aH.out.size ?_)
       intro v8 w8 r8 g8;have bH:Hid (Hs7 w w8 A.heap.size r (.slice t ss.length z) log syn (.slice a R.es.length d) R):=bl.out.grown aM.out I.out.bel.size g8;have bF:Hid (Below C.heap.size C w8):=Below.grown aH.out g8 aH.out.size (fun j hj=>(World.ownsRow.lt aM.out j hj).1);have b4:Hid (Rws w8 C.heap.size v8 (F1++[x])):=r8;clear r8 g8 aM bl aH bt;go_wp2;exact⟨⟨j+1,by omega,by go_num,(by show Rws _ _ _ (T++l.take (j+1));rw[bO.out];exact b4.out),bH.out,bF.out,bL.out⟩,by simp[intOf];omega⟩
      .have D:Hid (dx R ss log=none):=Ez aI.out (Zq bf ao)
       have ct:=xp ao;clear ao aZ aQ;generalize bh R x.text=key at *
       cases a6:gn R x.text
       .rw[a6]at X
        clear a6;go_wp2_with fail;refine X.mono ?_;rintro e E ⟨rfl,H⟩;have U:=aw.out.below H;obtain⟨e0,e1,e2⟩:=U.cells;have bw:=U.lt;have N:Hid (Hs7 w E A.heap.size r (.slice t ss.length z) log syn (.slice a R.es.length d) R):=ar.out.below H;clear X H U aw aL ar am u0 u1 u2 aA a0 a1 a2;obtain⟨a4,ah,ai,aj⟩:=N.out.ans.facts;have a3:=N.out.ans.free;obtain⟨a5,ab,ae,af⟩:=N.out.rul.facts;obtain⟨m,q,g⟩:=N.out.done (ot _ _);have K:Hid (ac _ _ _ _):=m;have L:Hid (Rws _ _ _ _):=q;have M:Hid _:=g;clear m q g;go_wp2;refine bodyPost_ret (v:=.tuple #[.agg #[.slice a R.es.length d,.bool R.sh,.int .i64 R.lv],.slice none 0 0,.bool false]) ?_ rfl ⟨.slice a R.es.length d,.slice none 0 0,by rw[D.out];rfl,K.out,by rw[D.out];exact L.out,M.out⟩;rw[f6 rfl];go_simp
       .rw[a6]at X
        clear a6;go_wp2_with fail;refine X.mono ?_;rintro e E ⟨rfl,H⟩;have U:=aw.out.below H;obtain⟨e0,e1,e2⟩:=U.cells;have bw:=U.lt;have N:Hid (Hs7 w E A.heap.size r (.slice t ss.length z) log syn (.slice a R.es.length d) R):=ar.out.below H;clear X H U aw aL ar am u0 u1 u2 aA a0 a1 a2;obtain⟨a4,ah,ai,aj⟩:=N.out.ans.facts;have a3:=N.out.ans.free;obtain⟨a5,ab,ae,af⟩:=N.out.rul.facts;obtain⟨m,q,g⟩:=N.out.done (ot _ _);have K:Hid (ac _ _ _ _):=m;have L:Hid (Rws _ _ _ _):=q;have M:Hid _:=g;clear m q g;go_wp2;refine bodyPost_ret (v:=.tuple #[.agg #[.slice a R.es.length d,.bool R.sh,.int .i64 R.lv],.slice none 0 0,.bool false]) ?_ rfl ⟨.slice a R.es.length d,.slice none 0 0,by rw[D.out];rfl,K.out,by rw[D.out];exact L.out,M.out⟩;rw[f6 rfl];go_simp
     .obtain rfl:j=l.length:=by omega
      have O:Rws wr C.heap.size _ (T++l.take l.length):=G;have V:∀ x ∈ T++l.take l.length,bh R x.text=x.key:=Y
      rw[List.take_length,br.out]at O V;have b0:Hid (Rws _ _ _ _):=O;have bE:Hid (Below C.heap.size C wr):=W;have aJ:Hid (Hs7 w wr A.heap.size r (.slice t ss.length z) log syn (.slice a R.es.length d) R):=J;have bJ:Hid (∀ x ∈ (f.take (k+1)).flatten,bh R x.text=x.key):=V;clear G O W J Y V;go_wp2;exact⟨⟨k+1,by omega,by go_num,b0.out,aJ.out,bE.out,bJ.out⟩,by simp[intOf];omega⟩
   .obtain rfl:k=f.length:=by omega
    have O:Rws wr C.heap.size _ ((f.take f.length).flatten):=G;have V:∀ x ∈ (f.take f.length).flatten,bh R x.text=x.key:=Y
    rw[List.take_length]at O V;have ap:=Zp V;have bP:Hid (im R f.flatten):=I0 av.out aI.out ap;have c0:=aP.out.1;obtain⟨al,an⟩:∃ al,al=dx R ss log:=⟨_,rfl⟩
    have aV:Hid (al=dx R ss log):=an;have bS:Hid (pj R f.flatten log=al):=by show _=_;rw[an,Kp aI.out bo.out ap h6];rfl
    generalize f.flatten=F at *;obtain⟨Z,rc,hv⟩:=bz O;subst hv;have c1:¬ (60:Int)<(F.length:Int):=by omega
    have b0:Hid (Rws _ w.heap.size (.slice Z F.length rc) F):=cz O I.out.bel.size;have bI:Hid (Hs7 w wr A.heap.size r (.slice t ss.length z) log syn (.slice a R.es.length d) R):=J;obtain⟨bc,d0,d1,d2,d3,df⟩:=J.disk.facts;obtain⟨w6,rfl⟩:∃ w6,w6=wr:=⟨_,rfl⟩
    clear G O W J Y V ap an aP bm bk bn bi av aI bo;go_wp2_with fail;go_loopw [9,16] (fun v sv wr=>as2 w A.heap.size r (.slice t ss.length z) log syn (.slice a R.es.length d) R al v sv wr) (fun _ sv _=>D9 sv)
    case atStart=>exact⟨F,log,rfl,b0.out,bI.out,bP.out,h6,bS.out⟩
    case round =>
     obtain⟨l,s,rfl,G,J,aT,cw,hA⟩:=hrel;obtain⟨Z,rc,hv⟩:=bz G;subst hv;by_cases hp:0<s.size
     .have SR:=ah6 s wr hp (by omega)
      have c9:(0:Int)<(s.size:Int):=by omega
      cases hrc:io s with
      | none =>
       have D:Hid (dx R ss log=none):=by show _=_;rw[<- aV.out,<- hA];exact a32 (by omega) hrc
       rw[hrc]at SR;have az:Calls prog 48 #[.string s] wr fun e w'=>e=.returned (.tuple #[.agg #[.int .i64 0,.string ⟨#[]⟩,.string ⟨#[]⟩],.int .i64 0])/\Below wr.heap.size wr w':=SR
       have S:Hid (Hs7 w wr A.heap.size r (.slice t ss.length z) log syn (.slice a R.es.length d) R):=J;clear SR J G aT hA hrc;go_wp2_with fail;refine az.mono ?_;rintro e E ⟨rfl,H⟩;have N:Hid (Hs7 w E A.heap.size r (.slice t ss.length z) log syn (.slice a R.es.length d) R):=S.out.below H;clear az H S;obtain⟨a4,ah,ai,aj⟩:=N.out.ans.facts;have a3:=N.out.ans.free;obtain⟨a5,ab,ae,af⟩:=N.out.rul.facts;obtain⟨m,q,g⟩:=N.out.done (ot _ _);have bZ:=(Below.refl (Gb E (w.heap.size+1) (.slice a R.es.length d) (.bool R.sh) (.int .i64 R.lv)).heap.size (Gb E (w.heap.size+1) (.slice a R.es.length d) (.bool R.sh) (.int .i64 R.lv))).alloc bR (.cells #[.int .i64 0,.string ⟨#[]⟩,.string ⟨#[]⟩] 27);replace m:=m.below bZ;replace q:=q.below bZ;replace g:=g.trans (bZ.mono g.size);have K:Hid (ac _ _ _ _):=m
       have L:Hid (Rws _ _ _ _):=q;have M:Hid _:=g;clear m q g;go_wp2;refine bodyPost_ret (v:=.tuple #[.agg #[.slice a R.es.length d,.bool R.sh,.int .i64 R.lv],.slice none 0 0,.bool false]) ?_ rfl ⟨.slice a R.es.length d,.slice none 0 0,by rw[D.out];rfl,K.out,by rw[D.out];exact L.out,M.out⟩;rw[f6 rfl];go_simp
      | some p =>
       obtain⟨o,n⟩:=p;obtain⟨be,cy,cg⟩:=Wn hrc;obtain⟨cp,cq⟩:=wm be;rw[hrc]at SR;have az:Calls prog 48 #[.string s] wr fun e w'=>e=.returned (.tuple #[.agg #[.int .i64 (kn7 o),.string o.text,.string o.val],.int .i64 (n:Int)])/\Below wr.heap.size wr w':=SR
       have cr:((n:Int) == 0)=false:=by simp;omega
       have cs:(n:Int)<=(s.size:Int):=by omega
       have S:Hid (Hs7 w wr A.heap.size r (.slice t ss.length z) log syn (.slice a R.es.length d) R):=J;have bp:Hid (Rws wr w.heap.size (.slice Z l.length rc) l):=G;have aC:Hid (im R l):=aT;have HA:Hid (pj R l s=al):=hA;have aO:Hid (bq s=some (o,n)):=be;have cl:=Dec.size_extract s n;obtain⟨kd,ap⟩:∃ kd,kd=kn7 o:=⟨_,rfl⟩
       have bK:Hid (kd=kn7 o):=ap;rw[<- ap]at az;clear SR J G aT hA hrc be ap;go_wp2_with fail;refine az.mono ?_;rintro e E ⟨rfl,H⟩;have N:Hid (Hs7 w E A.heap.size r (.slice t ss.length z) log syn (.slice a R.es.length d) R):=S.out.below H;have b9:Below E.heap.size E (E.alloc (.cells #[.int .i64 kd,.string o.text,.string o.val] 27)):=bY _;have aK:Hid (Hs7 w (E.alloc (.cells #[.int .i64 kd,.string o.text,.string o.val] 27)) A.heap.size r (.slice t ss.length z) log syn (.slice a R.es.length d) R):=N.out.below b9;have AP:=Gn o (by omega) cg aK.out.ents bB ((bp.out.below H).below b9) aC.out.rise aC.out.len;rw[<- bK.out]at AP;obtain⟨aA,u0,u1,u2⟩:=N.out.rul.facts;clear az H b9 S bp;by_cases hc:apC R l o=0
       .rw[decide_eq_true hc]at AP
        have bD:Hid (pj R (apR R l o) (s.extract n s.size)=al):=by show _=_;rw[<- HA.out,a33 aO.out hc]
        have b3:Hid (im R (apR R l o)):=aC.out.step hc;have aB:Hid (apC R l o=0):=hc;clear hc HA aO aC;go_wp2_with fail;refine AP.mono ?_;rintro e w8 ⟨v8,rfl,r8,b8⟩;have b4:Hid (Rws w8 w.heap.size v8 (apR R l o)):=cz (r8 aB.out) aK.out.bel.size;have au:Hid (Hs7 w w8 A.heap.size r (.slice t ss.length z) log syn (.slice a R.es.length d) R):=aK.out.below b8;clear AP r8 b8 u0 u1 u2 aA aB;go_wp2;exact⟨⟨apR R l o,s.extract n s.size,rfl,b4.out,au.out,b3.out,by omega,bD.out⟩,by simp only[D9];omega⟩
       .have D:Hid (dx R ss log=none):=by show _=_;rw[<- aV.out,<- HA.out];exact Ot aO.out hc
        rw[decide_eq_false hc]at AP;clear hc HA aO aC;go_wp2_with fail;refine AP.mono ?_;rintro e w8 ⟨v8,rfl,r8,b8⟩;have au:Hid (Hs7 w w8 A.heap.size r (.slice t ss.length z) log syn (.slice a R.es.length d) R):=aK.out.below b8;clear AP r8 b8 u0 u1 u2 aA;obtain⟨a4,ah,ai,aj⟩:=au.out.ans.facts;have a3:=au.out.ans.free;obtain⟨a5,ab,ae,af⟩:=au.out.rul.facts;obtain⟨m,q,g⟩:=au.out.done (ot _ _);have K:Hid (ac _ _ _ _):=m;have L:Hid (Rws _ _ _ _):=q;have M:Hid _:=g;clear m q g;go_wp2;refine bodyPost_ret (v:=.tuple #[.agg #[.slice a R.es.length d,.bool R.sh,.int .i64 R.lv],.slice none 0 0,.bool false]) ?_ rfl ⟨.slice a R.es.length d,.slice none 0 0,by rw[D.out];rfl,K.out,by rw[D.out];exact L.out,M.out⟩;rw[f6 rfl];go_simp
     .have c9:¬ (0:Int)<(s.size:Int):=by omega
      have D:Hid (dx R ss log=some l):=by show _=_;rw[<- aV.out,<- hA];exact ag6 (by omega)
      have S:Hid (Hs7 w wr A.heap.size r (.slice t ss.length z) log syn (.slice a R.es.length d) R):=J;obtain⟨a4,ah,ai,aj⟩:=S.out.ans.facts;have a3:=S.out.ans.free;obtain⟨a5,ab,ae,af⟩:=S.out.rul.facts;obtain⟨m,q,g⟩:=S.out.done G;have K:Hid (ac _ _ _ _):=m;have L:Hid (Rws _ _ _ _):=q;have M:Hid _:=g;clear m q g G J aT hA;go_wp2;refine bodyPost_ret (v:=.tuple #[.agg #[.slice a R.es.length d,.bool R.sh,.int .i64 R.lv],.slice Z l.length rc,.bool true]) ?_ rfl ⟨.slice a R.es.length d,.slice Z l.length rc,by rw[D.out];rfl,K.out,by rw[D.out];exact L.out,M.out⟩;rw[f6 rfl];go_simp
theorem ah8 (l:List ByteArray):∀ u ∈ l.map Value.string,u.oneCell'=true:=fun u hu=>by
 obtain⟨x,_,rfl⟩:=List.mem_map.1 hu;rfl
theorem Jb {w:World} {o:Oper} {a:Act} {K:Act->World->Prop} {Q:Exit->Act->World->Prop}(s x:Operand)
  (m:o.op=.call { callee:=.builtin .append,args:=#[s,x],argTypes:=#[23,23] }) (B F:Nat) (v t:Value) (l l':List ByteArray) (p:a.eval s=v) (q:a.eval x=t) (e:ak w B v l) (i:ak w F t l')
  (I:l.length+l'.length<=2097152) (z:B<=w.heap.size) (h:∀ v' w',ak w' B v' (l++l')->w.grownBy w' v.ownBlock->K (a.put o.dst v') w'):Oper.wp prog o a w K Q:=by
 obtain⟨r,k,E,C,D⟩:=info_parts Nj;rcases i.form with ⟨rfl,rfl⟩|⟨g,f,rfl,_,_⟩
 .obtain⟨b,n,G,rfl,A⟩:∃ b n c,v=.slice b n c/\n<=c:=by
   rcases e.form with ⟨rfl,rfl⟩|⟨g,f,rfl,d,_⟩
   .exact⟨_,_,_,rfl,bR⟩
   .exact⟨_,_,_,rfl,d⟩
  refine Go.Lib.wp_append_run w s x 23 23 m _ _ p q _ _ (xu w _ _ _ r underlying23 k b n G 0 A) ?_;refine h _ _ ?_ ⟨rfl,rfl,rfl,bR,fun _ _ _=>rfl⟩;rw[List.append_nil];exact e
 .refine wp_append_own w s x 23 m B 9 r _ 1 16 underlying23 k E C D rfl (by decide) v l.length (l.map Value.string) p e ⟨g,0,none⟩ l'.length f (l'.map Value.string) q (by simp) (fun j u hj=>?_) (ah8 l') (by unfold maxLen;omega) (by omega) z fun v' w' d h2 _=>h v' w' ?_ h2
  .rw[List.getElem?_map]at hj
   obtain⟨y,H,rfl⟩:=Option.map_eq_some_iff.1 hj;have:=i.cell j y H
   cases j with
   | zero=>simpa [Addr.add] using this
   | succ j=>simpa [Addr.add] using this
  .unfold ak
   rw[List.length_append,List.map_append];exact d
theorem E9 {w:World} {d:Array Oper} {rest:List Oper} {o:Oper} {a:Act} {Q:Exit->Act->World->Prop}(i:o.guard=none) (s x:Operand)
  (m:o.op=.call { callee:=.builtin .append,args:=#[s,x],argTypes:=#[23,23] }) (B e:Nat) (v c:Value) (l b:List ByteArray) (n:a.eval s=v) (p:a.eval x=c) (j:ak w B v l) (k:ak w e c b)
  (f:l.length+b.length<=2097152) (g:B<=w.heap.size) (h:∀ v' w',ak w' B v' (l++b)->w.grownBy w' v.ownBlock->wpList prog d Q rest (a.put o.dst v') w'):wpList prog d Q (o::rest) a w :=
 wpList_plain i fun _ hK=>Jb s x m B e v c l b n p j k f g fun v' w' h1 h2=>hK _ _ (h v' w' h1 h2)
theorem a53 (w:World) (n B:Nat) (hn:n=w.heap.size) (a:B<=w.heap.size):ak (w.alloc (.cells #[] 9)) B (.slice (some ⟨n,0,none⟩) 0 0) []:=by
 subst hn;exact⟨rfl,.inr ⟨w.heap.size,0,#[],rfl,a,heap_alloc_new _ _,bR,Nat.zero_le _,rfl,rfl⟩⟩
theorem a54 (w:World) (n B:Nat) (x:ByteArray) (hn:n=w.heap.size) (a:B<=w.heap.size):ak (w.alloc (.cells #[.string x] 9)) B (.slice (some ⟨n,0,none⟩) 1 1) [x]:=by
 subst hn;exact⟨rfl,.inr ⟨w.heap.size,1,_,rfl,a,heap_alloc_new _ _,bR,by unfold maxLen;omega,rfl,rfl⟩⟩
def s4D (u:World) (p:Nat) (a b c d:Value):World:=(((u.setCell ⟨p,0,none⟩ a).setCell ⟨p,1,none⟩ b).setCell ⟨p,2,none⟩ c).setCell ⟨p,3,none⟩ d
theorem lu (u:World) (p:Nat) (a b c d:Value):u.grownBy (s4D u p a b c d) (some p):=(((dq u p 0 a).trans (dq _ p 1 b)).trans (dq _ p 2 c)).trans (dq _ p 3 d)
theorem jk {w u:World} {p:Nat}(h:Below w.heap.size w u) (e:w.heap.size<=p) (a b c d:Value):Below w.heap.size w (s4D u p a b c d) :=
 Below.grown h (lu u p a b c d) h.size (fun j hj=>by have:=Option.some.inj hj;omega)
theorem Iu {u:World} {p:Nat} {r:ByteArray} {v:Value} {log:ByteArray} {syn:Int}(h:ba u p r v log syn) (b:ByteArray) (v':Value) (a:ByteArray) (syn':Int):ba (s4D u p (.string b) v' (.string a) (.int .i64 syn')) p b v' a syn':=by
 have c:=heap_setCell_same u p 0 _ _ (.string b) h;have d:=heap_setCell_same _ p 1 _ _ v' c;have e:=heap_setCell_same _ p 2 _ _ (.string a) d;have f:=heap_setCell_same _ p 3 _ _ (.int .i64 syn') e;show _=_
 unfold s4D;rw[f];simp
theorem ak.box {u u':World} {B p:Nat} {a:Value} {ss:List ByteArray} {cs:Array Value} {t:TypeId}(h:ak u B a ss) (b:u.heap[p]? = some (.cells cs t (0,0))) (ht:9≠t) (g:u.grownBy u' (some p)):ak u' B a ss :=
 World.ownsRow.kept h g (iw h b ht)
theorem Rws.box {u u':World} {B p:Nat} {vr:Value} {l:List Rw} {cs:Array Value} {t:TypeId}(h:Rws u B vr l) (a:u.heap[p]? = some (.cells cs t (0,0))) (ht:37≠t) (g:u.grownBy u' (some p)):Rws u' B vr l :=
 World.ownsRow.kept h g (iw h a ht)
theorem ba.set {u:World} {b p k:Nat} {r:ByteArray} {v:Value} {log:ByteArray} {syn:Int}(h:ba u b r v log syn) (a:b≠p) (x:Value):ba (u.setCell ⟨p,k,none⟩ x) b r v log syn:=(heap_setCell_other u ⟨p,k,none⟩ b x a).trans h
theorem Do {u u':World} {p B e size n:Nat} {v:Value} {xs:List Value} {cs:Array Value} {t:TypeId}(h:u.heap[p]? = some (.cells cs t (0,0))) (b:u.ownsRow B e size v n xs) (ht:e≠t) (g:u.grownBy u' v.ownBlock):u'.heap[p]? = some (.cells cs t (0,0)):=by
 refine (g.block p (Array.getElem?_eq_some_iff.1 h).1 (fun c=>?_)).trans h;rcases iw b h ht with a|a
 .rw[a]at c;cases c
 .exact a c.symm
theorem om {w:World} {B:Nat} {b:Value} {d:Ds7}(a:Dk7 w B b d) :
  Calls prog 32 #[.agg #[.string d.r,b,.string d.log,.int .i64 d.syn]] w fun e w'=>∃ ve vr,e=.returned (.tuple #[.agg #[ve,.bool (aa d.r).sh,.int .i64 (aa d.r).lv],vr,.bool (fu d).isSome])/\ac w' w.heap.size ve (aa d.r).es/\Rws w' w.heap.size vr ((fu d).getD [])/\Below w.heap.size w w' :=
 Vy d.r d.log d.syn a.ok.rules (Nat.le_trans a.ok.log (by decide)) a.pages a.ok.page a.ok.pages a.ok.side
theorem zv (w:World) (k a b:Int):Calls prog 34 #[.int .i64 k,.int .i64 a,.int .i64 b] w fun e w'=>e=.returned (.bool (decide (a<=k/\k<=b)))/\w'=w:=by
 by_cases d:a<=k
 .by_cases f:k<=b
  .rw[decide_eq_true ⟨d,f⟩]
   go_enter func34,ntmps34;go_wp2;go_ret;exact⟨rfl,rfl⟩
  .rw[decide_eq_false (fun c=>f c.2)]
   have g:decide (k<=b)=false:=decide_eq_false f;go_enter func34,ntmps34;go_wp2;go_ret;exact⟨by first|rfl|(rw[<- g];rfl),rfl⟩
 .rw[decide_eq_false (fun c=>d c.1)]
  have g:decide (a<=k)=false:=decide_eq_false d;go_enter func34,ntmps34;go_wp2;go_ret;exact⟨by first|rfl|(rw[<- g];rfl),rfl⟩
theorem uf {w:World} {B:Nat} {D:Value} {d:Ds7}(n:Dk7 w B D d) :
  Calls prog 33 #[.agg #[.string d.r,D,.string d.log,.int .i64 d.syn]] w fun e w'=>e=.returned (.bool (cm d).isSome)/\Below w.heap.size w w':=by
 obtain⟨c,f,F⟩:=n.form;subst F;have q:Below w.heap.size w (w.alloc (.cells #[.string d.r,.slice c d.ss.length f,.string d.log,.int .i64 d.syn] 25)):=bY _;have i:=om (n.below q);have E:Hid (ba (w.alloc (.cells #[.string d.r,.slice c d.ss.length f,.string d.log,.int .i64 d.syn] 25)) w.heap.size d.r (.slice c d.ss.length f) d.log d.syn):=ba.new w _ _ _ _;have p:=hZ q;have K:=n.ok.log
 cases ho:fu d with
 | none =>
  have s:Hid ((cm d).isSome=false):=by show _=_;unfold cm;rw[ho];split <;> rfl
  rw[ho]at i;rw[s.out];have k:Calls prog 32 #[.agg #[.string d.r,.slice c d.ss.length f,.string d.log,.int .i64 d.syn]] (w.alloc (.cells #[.string d.r,.slice c d.ss.length f,.string d.log,.int .i64 d.syn] 25)) fun e w'=>∃ g h,e=.returned (.tuple #[.agg #[g,.bool (aa d.r).sh,.int .i64 (aa d.r).lv],h,.bool false])/\ac w' _ g (aa d.r).es/\Rws w' _ h []/\Below _ _ w':=i
  clear n q i ho;go_enter func33,ntmps33;go_wp2_with fail;refine k.mono ?_;rintro e t ⟨g,h,rfl,m,y,j⟩;obtain⟨H,I,x⟩:=cu m;subst x;have a:=p.out.trans (j.mono p.out.size);have v:Hid (∀ o,Below w.heap.size w (t.alloc o)):=fun o=>a.alloc a.size o
  clear k m y j a;go_wp2;go_ret;exact⟨rfl,v.out _⟩
 | some l =>
  rw[ho]at i;have k:Calls prog 32 #[.agg #[.string d.r,.slice c d.ss.length f,.string d.log,.int .i64 d.syn]] (w.alloc (.cells #[.string d.r,.slice c d.ss.length f,.string d.log,.int .i64 d.syn] 25)) fun e w'=>∃ g h,e=.returned (.tuple #[.agg #[g,.bool (aa d.r).sh,.int .i64 (aa d.r).lv],h,.bool true])/\ac w' _ g (aa d.r).es/\Rws w' _ h l/\Below _ _ w':=i
  obtain⟨b,z⟩:∃ b,b=decide (0<=d.syn/\d.syn<=(d.log.size:Int)):=⟨_,rfl⟩
  have s:Hid ((cm d).isSome=b):=by
   show _=_
   rw[z];unfold cm ov;by_cases C:0<=d.syn/\d.syn<=(d.log.size:Int)
   .rw[decide_eq_true C,if_pos rfl,ho];rfl
   .rw[decide_eq_false C,if_neg (by simp)];rfl
  have A:Hid (∀ u,Calls prog 34 #[.int .i64 d.syn,.int .i64 0,.int .i64 (d.log.size:Int)] u fun e w'=>e=.returned (.bool b)/\w'=u):=fun u=>by rw[z];exact zv u d.syn 0 (d.log.size:Int)
  rw[s.out];clear n q i ho z s;go_enter func33,ntmps33;go_wp2_with fail;refine k.mono ?_;rintro e t ⟨g,h,rfl,m,y,j⟩;obtain⟨H,I,x⟩:=cu m;subst x;have a:=p.out.trans (j.mono p.out.size);have v:Hid (∀ o,Below w.heap.size w (t.alloc o)):=fun o=>a.alloc a.size o
  obtain⟨J,L,M,N,O,P⟩:=(E.out.below j).facts;have G:=fun o=>A.out (t.alloc o)
  clear k m y j a A;go_wp2_with fail;refine (G _).mono ?_;rintro e Q ⟨rfl,rfl⟩;go_wp2;go_ret;exact⟨rfl,v.out _⟩
theorem Vz {w:World} {B:Nat} {p:Value} {d:Ds7}(n:Dk7 w B p d) :
  Calls prog 11 #[.agg #[.string d.r,p,.string d.log,.int .i64 d.syn]] w fun e w'=>∃ v,e=.returned (.tuple #[v,.bool (fu d).isSome])/\Rws w' w.heap.size v ((fu d).getD [])/\Below w.heap.size w w':=by
 obtain⟨u,x,t⟩:=n.form;subst t;have k:Below w.heap.size w (w.alloc (.cells #[.string d.r,.slice u d.ss.length x,.string d.log,.int .i64 d.syn] 25)):=bY _;have g:=om (n.below k);have b:=hZ k;generalize fu d=o at *;clear n k
 cases o with
 | none =>
  go_enter func11,ntmps11;go_wp2_with fail;refine g.mono ?_;rintro e i ⟨C,q,rfl,f,h,c⟩;obtain⟨z,A,m⟩:=cu f;subst m;have a:=b.out.trans (c.mono b.out.size);have j:Hid (∀ o,Below w.heap.size w (i.alloc o)):=fun o=>a.alloc a.size o
  have y:((none:Option (List Rw)).isSome)=false:=rfl;clear g f h c a;go_wp2;go_ret2;exact⟨_,rfl,World.ownsRow_nil _ _ _ _,j.out _⟩
 | some l =>
  go_enter func11,ntmps11;go_wp2_with fail;refine g.mono ?_;rintro e i ⟨C,q,rfl,f,h,c⟩;obtain⟨z,A,m⟩:=cu f;subst m;have a:=b.out.trans (c.mono b.out.size);have j:Hid (∀ o,Below w.heap.size w (i.alloc o)):=fun o=>a.alloc a.size o
  have s:Hid (∀ o,Rws (i.alloc o) w.heap.size q l):=fun o=>(cz h b.out.size).below (bY o)
  have y:((some l:Option (List Rw)).isSome)=true:=rfl;clear g f h c a;go_wp2;go_ret2;exact⟨_,rfl,s.out _,j.out _⟩
def Co (r:ByteArray):ByteArray:=if (aa r).code=0 then r else ⟨#[]⟩
theorem ad3 (w:World) (r:ByteArray) (I:r.size<=1048576) :
  Calls prog 65 #[.string r] w fun e w'=>∃ b,e=.returned (.tuple #[.agg #[.string (Co r),.slice none 0 0,.string ⟨#[]⟩,.int .i64 0],.bool b])/\Below w.heap.size w w':=by
 have q:Below w.heap.size w (w.alloc (.cells #[.string ⟨#[]⟩,.slice none 0 0,.string ⟨#[]⟩,.int .i64 0] 25)):=bY _;have x:Hid (ba (w.alloc (.cells #[.string ⟨#[]⟩,.slice none 0 0,.string ⟨#[]⟩,.int .i64 0] 25)) w.heap.size ⟨#[]⟩ (.slice none 0 0) ⟨#[]⟩ 0):=ba.new w _ _ _ _;obtain⟨R,j⟩:∃ R,R=aa r:=⟨_,rfl⟩
 obtain⟨n,g⟩:∃ c,c=R.code:=⟨_,rfl⟩
 have l:Calls prog 23 #[.string r] (w.alloc (.cells #[.string ⟨#[]⟩,.slice none 0 0,.string ⟨#[]⟩,.int .i64 0] 25)) fun e w'=>∃ vE,e=.returned (.tuple #[.agg #[vE,.bool R.sh,.int .i64 R.lv],.int .i64 n])/\ac w' (w.alloc (.cells #[.string ⟨#[]⟩,.slice none 0 0,.string ⟨#[]⟩,.int .i64 0] 25)).heap.size vE R.es/\Below (w.alloc (.cells #[.string ⟨#[]⟩,.slice none 0 0,.string ⟨#[]⟩,.int .i64 0] 25)).heap.size (w.alloc (.cells #[.string ⟨#[]⟩,.slice none 0 0,.string ⟨#[]⟩,.int .i64 0] 25)) w':=by rw[g,j];exact Fy r _ (by omega)
 have k:Hid (Below w.heap.size w _):=q;by_cases h:n=0
 .have t:Hid (Co r=r):=by show _=_;unfold Co;rw[if_pos (by rw[<- j,<- g];exact h)]
  rw[t.out];clear g j q;subst h;go_enter func65,ntmps65;go_wp2_with fail;refine l.mono ?_;rintro e u ⟨G,rfl,i,d⟩;obtain⟨E,F,s⟩:=cu i;subst s;have f:=k.out.trans (d.mono k.out.size);obtain⟨y,z,A,B,C,D⟩:=(x.out.below d).facts;have a:=jk (p:=w.heap.size) f bR (.string r) (.slice none 0 0) (.string ⟨#[]⟩) (.int .i64 0);have m:Hid (∀ o,Below w.heap.size w ((s4D u w.heap.size (.string r) (.slice none 0 0) (.string ⟨#[]⟩) (.int .i64 0)).alloc o)):=fun o=>a.alloc a.size o
  clear l i d f a;go_wp2;refine bodyPost_ret (v:=.tuple #[.agg #[.string r,.slice none 0 0,.string ⟨#[]⟩,.int .i64 0],.bool true]) ?_ rfl ⟨true,rfl,m.out _⟩;rw[results_cell_tmp rfl];go_simp
 .have t:Hid (Co r=⟨#[]⟩):=by show _=_;unfold Co;rw[if_neg (by rw[<- j,<- g];exact h)]
  rw[t.out];have H:(n != 0)=true:=by simpa using h
  clear g j q h;go_enter func65,ntmps65;go_wp2_with fail;refine l.mono ?_;rintro e u ⟨G,rfl,i,d⟩;obtain⟨E,F,s⟩:=cu i;subst s;have f:=k.out.trans (d.mono k.out.size);obtain⟨y,z,A,B,C,D⟩:=(x.out.below d).facts;have a:=jk (p:=w.heap.size) f bR (.string ⟨#[]⟩) (.slice none 0 0) (.string ⟨#[]⟩) (.int .i64 0);have m:Hid (∀ o,Below w.heap.size w ((s4D u w.heap.size (.string ⟨#[]⟩) (.slice none 0 0) (.string ⟨#[]⟩) (.int .i64 0)).alloc o)):=fun o=>a.alloc a.size o
  clear l i d f a;go_wp2;refine bodyPost_ret (v:=.tuple #[.agg #[.string ⟨#[]⟩,.slice none 0 0,.string ⟨#[]⟩,.int .i64 0],.bool false]) ?_ rfl ⟨false,rfl,m.out _⟩;rw[results_cell_tmp rfl];go_simp
theorem Fx {w:World} {B:Nat} {I:Value} {d:Ds7}(s:Dk7 w B I d) :
  Calls prog 35 #[.agg #[.string d.r,I,.string d.log,.int .i64 d.syn]] w fun e w'=>∃ vp,e=.returned (.agg #[.string d.r,vp,.string d.log,.int .i64 d.syn])/\ak w' w.heap.size vp d.ss/\Below w.heap.size w w':=by
 obtain⟨c,f,O⟩:=s.form;subst O;obtain⟨W0,g⟩:∃ W0,W0=(w.alloc (.cells #[.string d.r,.slice c d.ss.length f,.string d.log,.int .i64 d.syn] 25)).alloc (.cells #[.string ⟨#[]⟩,.slice none 0 0,.string ⟨#[]⟩,.int .i64 0] 25):=⟨_,rfl⟩
 have i:Below w.heap.size w W0:=by rw[g];exact (bY _).alloc (by simp) _
 have M:W0.heap.size=w.heap.size+2:=by rw[g];simp
 have u:ba W0 w.heap.size d.r (.slice c d.ss.length f) d.log d.syn:=by
  show _=_
  rw[g,Below.heap_alloc _ _ _ (by simp)];exact heap_alloc_new w _
 have C:ba W0 (w.heap.size+1) ⟨#[]⟩ (.slice none 0 0) ⟨#[]⟩ 0:=by
  have h:=ba.new (w.alloc (.cells #[.string d.r,.slice c d.ss.length f,.string d.log,.int .i64 d.syn] 25)) ⟨#[]⟩ (.slice none 0 0) ⟨#[]⟩ 0;rw[World.size_alloc]at h;rw[g];exact h
 have l:=(Below.refl W0.heap.size W0).alloc bR (.cells #[] 9);have o:Hid (ak (W0.alloc (.cells #[] 9)) w.heap.size (.slice (some ⟨w.heap.size+2,0,none⟩) 0 0) []):=a53 W0 _ w.heap.size M.symm i.size;have A:Hid (ak (W0.alloc (.cells #[] 9)) B (.slice c d.ss.length f) d.ss):=(s.pages.below i).below l;have n:=hZ (i.trans (l.mono i.size));have z:=hZ (u.below l);have y:=hZ (C.below l);have X:=s.ok.pages;have H:Hid (W0=(w.alloc (.cells #[.string d.r,.slice c d.ss.length f,.string d.log,.int .i64 d.syn] 25)).alloc (.cells #[.string ⟨#[]⟩,.slice none 0 0,.string ⟨#[]⟩,.int .i64 0] 25)):=g;obtain⟨L,P,Q,R,S,T⟩:=u.facts
 clear s i u C l g;go_enter func35,ntmps35;go_upto_region 1 with fail
 rw[<- H.out];clear H;go_wp2_with (at_builtin;refine E9 rfl _ _ rfl w.heap.size B (.slice (some ⟨w.heap.size+2,0,none⟩) 0 0) (.slice c d.ss.length f) [] d.ss rfl rfl o.out A.out (by simp;omega) n.out.size ?_)
 intro U w1 m q;replace m:ak w1 w.heap.size U d.ss:=m;obtain⟨a,b,N⟩:=ip m;subst N;have x:ba w1 w.heap.size d.r (.slice c d.ss.length f) d.log d.syn:=Do z.out o.out (by decide) q;have t:ba w1 (w.heap.size+1) ⟨#[]⟩ (.slice none 0 0) ⟨#[]⟩ 0:=Do y.out o.out (by decide) q;have E:Below w.heap.size w w1:=Below.grown n.out q n.out.size (fun j hj=>by have:w.heap.size+2=j:=Option.some.inj hj;omega);have F:Below w.heap.size w (w1.setCell ⟨w.heap.size,1,none⟩ (.slice a d.ss.length b)):=E.setCell (p:=⟨w.heap.size,1,none⟩) bR _;have D:=t.set (p:=w.heap.size) (k:=1) (by omega) (.slice a d.ss.length b);have G:ak (w1.setCell ⟨w.heap.size,1,none⟩ (.slice a d.ss.length b)) w.heap.size (.slice a d.ss.length b) d.ss:=m.box x (by decide) (dq w1 w.heap.size 1 _)
 have K:Hid (ak _ _ _ _):=G.box D (by decide) (lu _ (w.heap.size+1) (.string d.r) (.slice a d.ss.length b) (.string d.log) (.int .i64 d.syn));have J:Hid (Below _ _ _):=jk (p:=w.heap.size+1) F (by omega) (.string d.r) (.slice a d.ss.length b) (.string d.log) (.int .i64 d.syn);obtain⟨L,P,Q,R,S,T⟩:=x.facts;obtain⟨W,Y,V,Z,a3,af⟩:=t.facts;clear m q x t E F D G z y o A n;go_wp2;refine bodyPost_ret (v:=.agg #[.string d.r,.slice a d.ss.length b,.string d.log,.int .i64 d.syn]) ?_ rfl ⟨.slice a d.ss.length b,rfl,K.out,J.out⟩;rw[av rfl];go_simp
theorem Si (w:World) (n B:Nat) (xs:List Int) (hn:n=w.heap.size) (a:B<=w.heap.size) (b:xs.length<=100):Bys (w.alloc (.cells (xs.map (Value.int .u8)).toArray 5)) B (.slice (some ⟨n,0,none⟩) xs.length xs.length) xs:=by
 subst hn;exact⟨by simp,.inr ⟨w.heap.size,xs.length,_,rfl,a,heap_alloc_new _ _,bR,by unfold maxLen;omega,by simp,by simp[List.take_of_length_le]⟩⟩
theorem Ty (w:World) (o:Dn) (g:o.text.size<=60) (f:o.val.size<=60) :
  Calls prog 83 #[.agg #[.int .i64 (kn7 o),.string o.text,.string o.val]] w fun e w'=>e=.returned (.string (oo o))/\Below w.heap.size w w':=by
 obtain⟨p,x,v⟩:=o;have j:x.size<=60:=g;have i:v.size<=60:=f;have k:IntKind.u8.wrap (x.size:Int)=(x.size:Int):=by rw[IntKind.wrap_u8];omega
 have l:IntKind.u8.wrap (v.size:Int)=(v.size:Int):=by rw[IntKind.wrap_u8];omega
 have d:Hid (∀ o o2:Obj,Below w.heap.size w ((w.alloc o).alloc o2)):=fun o o2=>(bY o).alloc (by simp) o2
 clear g f
 cases p
 .show Calls prog 83 #[.agg #[.int .i64 2,.string x,.string v]] w fun e w'=>_
  have b:=xb (Si (w.alloc (.cells #[.int .i64 2,.string x,.string v] 27)) (w.heap.size+1) 0 [(x.size:Int)] (by simp) (Nat.zero_le _) (by simp));obtain⟨lb,a⟩:∃ lb,ix [(x.size:Int)]=lb:=⟨_,rfl⟩
  have h:lb.size=1:=by rw[<- a];rfl
  have c:Hid (oo ⟨false,x,v⟩=⟨#[100]⟩++lb++x++⟨#[46]⟩):=by show _=_;rw[<- a];rfl
  rw[a]at b;simp only[List.map_cons,List.map_nil,List.length_cons,List.length_nil]at b;rw[c.out];clear a;go_enter func83,ntmps83;go_wp2;go_ret;exact⟨rfl,d.out _ _⟩
 .show Calls prog 83 #[.agg #[.int .i64 1,.string x,.string v]] w fun e w'=>_
  have b:=xb (Si (w.alloc (.cells #[.int .i64 1,.string x,.string v] 27)) (w.heap.size+1) 0 [(x.size:Int),(v.size:Int)] (by simp) (Nat.zero_le _) (by simp));obtain⟨lb,a⟩:∃ lb,ix [(x.size:Int),(v.size:Int)]=lb:=⟨_,rfl⟩
  have h:lb.size=2:=by rw[<- a];rfl
  have c:Hid (oo ⟨true,x,v⟩=⟨#[112]⟩++lb++x++v++⟨#[46]⟩):=by show _=_;rw[<- a];rfl
  rw[a]at b;simp only[List.map_cons,List.map_nil,List.length_cons,List.length_nil]at b;rw[c.out];clear a;go_enter func83,ntmps83;go_wp2;go_ret;exact⟨rfl,d.out _ _⟩
theorem Ak {w:World} {B:Nat} {v:Value} {es:List Ent}(h:ac w B v es):∃ a c,v=.slice a es.length c:=by
 rcases h.form with ⟨rfl,b⟩|⟨_,_,rfl,_,_,_,_⟩
 .rw[b];exact⟨_,_,rfl⟩
 .exact⟨_,_,rfl⟩
def Di:Prop:=∀ {w:World} {B:Nat} {vd:Value} {d:Ds7} {ty:TypeId} {pv:Value} {pb pl pf pn:Addr},Dk7 w B vd d->qt w ty pv pb pl pf pn ->
 Calls prog 38 #[.agg #[.string d.r,vd,.string d.log,.int .i64 d.syn]] w fun e w'=>OpQ w (fu d) d pb e w'
theorem Y3 (u:World):ny (u.alloc (.cells #[.slice none 0 0,.bool false,.int .i64 0,.string ⟨#[]⟩,.slice none 0 0,.string ⟨#[]⟩,.int .i64 0,.slice none 0 0] 71)) u.heap.size (.slice none 0 0) false 0 ⟨#[]⟩ (.slice none 0 0) ⟨#[]⟩ 0 (.slice none 0 0):=heap_alloc_new u _
theorem Cr (hO:Di){w:World} {B:Nat} {vd:Value} {d:Ds7} {ty:TypeId} {pv:Value} {pb pl pf pn:Addr}(s:Dk7 w B vd d) (C:qt w ty pv pb pl pf pn) :
  Calls prog 29 #[.agg #[.string d.r,vd,.string d.log,.int .i64 d.syn]] w fun e w'=>OpQ w (cm d) d pb e w':=by
 obtain⟨i,j,am⟩:=s.form;subst am;obtain⟨W0,a⟩:∃ W0,W0=(w.alloc (.cells #[.string d.r,.slice i d.ss.length j,.string d.log,.int .i64 d.syn] 25)).alloc (.cells #[.slice none 0 0,.bool false,.int .i64 0,.string ⟨#[]⟩,.slice none 0 0,.string ⟨#[]⟩,.int .i64 0,.slice none 0 0] 71):=⟨_,rfl⟩
 have c:Below w.heap.size w W0:=by rw[a];exact (bY _).alloc (by simp) _
 have m:Hd7 w W0 d.r (.slice i d.ss.length j) d.log d.syn:=by
  refine⟨?_,?_,c⟩
  .show _=_
   rw[a,Below.heap_alloc _ _ _ (by simp)];exact heap_alloc_new w _
  .have h:=Y3 (w.alloc (.cells #[.string d.r,.slice i d.ss.length j,.string d.log,.int .i64 d.syn] 25))
   rw[World.size_alloc]at h;rw[a];exact h
 have g:=hO (s.below c) (C.below c);have N:=(C.below c).errs.bad;have a8:=ag N;have aq:=s.ok.log;have au:W0.heap.size=w.heap.size+2:=by rw[a];simp
 have u:=hZ m;have f:Hid (W0=(w.alloc (.cells #[.string d.r,.slice i d.ss.length j,.string d.log,.int .i64 d.syn] 25)).alloc (.cells #[.slice none 0 0,.bool false,.int .i64 0,.string ⟨#[]⟩,.slice none 0 0,.string ⟨#[]⟩,.int .i64 0,.slice none 0 0] 71)):=a;obtain⟨O,Z,d1,d2,d3,df⟩:=m.disk.facts;obtain⟨M,Q,R,S,T,U,V,W,X,Y⟩:=m.ans.facts;by_cases t:0<=d.syn/\d.syn<=(d.log.size:Int)
 .have ai:¬ d.syn<0:=by omega
  have aj:¬ (d.log.size:Int)<d.syn:=by omega
  rw[a09 t];obtain⟨o,ho⟩:∃ o,o=fu d:=⟨_,rfl⟩
  rw[<- ho]at g ⊢;clear s C a c m t ho N a8
  cases o with
  | none =>
   have k:Calls prog 38 #[.agg #[.string d.r,.slice i d.ss.length j,.string d.log,.int .i64 d.syn]] W0 fun e w'=>(∃ q,e=.returned (.tuple #[zIx,q])/\Ik pb q)/\Below W0.heap.size W0 w':=g
   clear g;go_enter func29,ntmps29;go_wp2_with fail;rw[<- f.out];go_wp2_with fail;refine k.mono ?_;rintro e w1 ⟨⟨q,rfl,P⟩,n⟩;have b:=hZ (u.out.below n);obtain⟨M,Q,R,S,T,U,V,W,X,Y⟩:=b.out.ans.facts;have F:Hid (Below _ _ _):=ro (p:=w.heap.size+1) b.out.bel (by omega) (.slice none 0 0) (.bool false) (.int .i64 0) (.string ⟨#[]⟩) (.slice none 0 0) (.string ⟨#[]⟩) (.int .i64 0) (.slice none 0 0);have a9:=hZ P;clear k n f P Z d1 d2 d3 df O;unfold zIx;go_wp2;refine bodyPost_ret (v:=.tuple #[zIx,q]) ?_ rfl ⟨⟨q,rfl,a9.out⟩,F.out⟩;rw[results_cell_tmp rfl];go_simp;rfl
  | some l =>
   have k:Calls prog 38 #[.agg #[.string d.r,.slice i d.ss.length j,.string d.log,.int .i64 d.syn]] W0 fun e w'=>(∃ J K L,e=.returned (.tuple #[ixV J (aa d.r) d.r K d.log d.syn L,.nilIface])/\ac w' W0.heap.size J (aa d.r).es/\ak w' W0.heap.size K d.ss/\Rws w' W0.heap.size L l)/\Below W0.heap.size W0 w':=g
   clear g;go_enter func29,ntmps29;go_wp2_with fail;rw[<- f.out];go_wp2_with fail;refine k.mono ?_;rintro e w1 ⟨⟨J,K,L,rfl,G,H,I⟩,n⟩;obtain⟨D,E,al⟩:=Ak G;subst al;obtain⟨x,z,an,_⟩:=js H;subst an;obtain⟨y,A,ao⟩:=bz I;subst ao;have b:=hZ (u.out.below n);obtain⟨M,Q,R,S,T,U,V,W,X,Y⟩:=b.out.ans.facts;have F:Hid (Below _ _ _):=ro (p:=w.heap.size+1) b.out.bel (by omega) (.slice D (aa d.r).es.length E) (.bool (aa d.r).sh) (.int .i64 (aa d.r).lv) (.string d.r) (.slice x d.ss.length z) (.string d.log) (.int .i64 d.syn) (.slice y l.length A)
   obtain⟨k1,k2,k3⟩:=b13 (ac.low G (show w.heap.size<=W0.heap.size by omega)) (kq H (show w.heap.size<=W0.heap.size by omega)) (cz I (show w.heap.size<=W0.heap.size by omega)) b.out.ans (.slice D (aa d.r).es.length E) (.bool (aa d.r).sh) (.int .i64 (aa d.r).lv) (.string d.r) (.slice x d.ss.length z) (.string d.log) (.int .i64 d.syn) (.slice y l.length A);have ab:Hid (ac _ _ _ _):=k1;have ae:Hid (ak _ _ _ _):=k2;have ah:Hid (Rws _ _ _ _):=k3;clear k n f G H I k1 k2 k3 Z d1 d2 d3 df O;unfold ixV;go_wp2;refine bodyPost_ret (v:=.tuple #[ixV (.slice D (aa d.r).es.length E) (aa d.r) d.r (.slice x d.ss.length z) d.log d.syn (.slice y l.length A),.nilIface]) ?_ rfl ⟨⟨(.slice D (aa d.r).es.length E),(.slice x d.ss.length z),(.slice y l.length A),rfl,ab.out,ae.out,ah.out⟩,F.out⟩;rw[results_cell_tmp rfl];go_simp;rfl
 .rw[ad8 t]
  clear g s C a c m;by_cases ai:d.syn<0
  .clear t
   go_enter func29,ntmps29;go_wp2_with fail;rw[<- f.out];go_upto_region 2 with fail
   go_region
   all_goals
    go_wp2;refine bodyPost_ret (v:=.tuple #[zIx,.iface 298 (.pointer (some pb))]) ?_ rfl ⟨?_,?_⟩
    .rw[results_cell_tmp rfl]
     go_simp;rfl
    .exact⟨_,rfl,.inl rfl⟩
    .repeat (first|with_reducible exact u.out.bel|with_reducible refine Below.drew ?_|with_reducible refine Below.setCell ?_ (by show w.heap.size<=w.heap.size+1;omega) _)
  .have aj:(d.log.size:Int)<d.syn:=by omega
   clear t;go_enter func29,ntmps29;go_wp2_with fail;rw[<- f.out];go_upto_region 2 with fail
   go_region
   all_goals
    go_wp2;refine bodyPost_ret (v:=.tuple #[zIx,.iface 298 (.pointer (some pb))]) ?_ rfl ⟨?_,?_⟩
    .rw[results_cell_tmp rfl]
     go_simp;rfl
    .exact⟨_,rfl,.inl rfl⟩
    .repeat (first|with_reducible exact u.out.bel|with_reducible refine Below.drew ?_|with_reducible refine Below.setCell ?_ (by show w.heap.size<=w.heap.size+1;omega) _)
end Go.Proofs.YtjbmgghehdemdaaGreatDoor
