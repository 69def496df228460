/- IOpen7 -/
import Derived.Test.YtjbmgghehdemdaaGreatDoorMS27
import Derived.Test.YtjbmgghehdemdaaGreatDoorMS31
namespace Go.Proofs.YtjbmgghehdemdaaGreatDoor
set_option maxRecDepth 100000
set_option maxHeartbeats 16000000
open _root_.Go.Proofs.Tryz
open Go.RowKit
def zIx:Value:=.agg #[.slice none 0 0,.bool false,.int .i64 0,.string ⟨#[]⟩,.slice none 0 0,.string ⟨#[]⟩,.int .i64 0,.slice none 0 0]
def ixV (ve:Value) (R:RA) (r:ByteArray) (vp:Value) (log:ByteArray) (syn:Int) (vr:Value):Value:=.agg #[ve,.bool R.sh,.int .i64 R.lv,.string r,vp,.string log,.int .i64 syn,vr]
def Bw (pb:Addr) (ev:Value):Prop:=ev=.iface 298 (.pointer (some pb))\/∃ k:Int,ev=.iface 98 (.agg #[.int .i64 k])
def b39 (w:World) (R:RA) (r:ByteArray) (ss:List ByteArray) (log:ByteArray) (syn:Int) (pb:Addr) (e:Ending) (w':World):Prop :=
 (match eb R ss log with
  | some l=>∃ ve vp vr,e=.returned (.tuple #[ixV ve R r vp log syn vr,.nilIface])/\ac w' w.heap.size ve R.es/\ah w' w.heap.size vp ss/\Rws w' w.heap.size vr l
  | none=>∃ ev,e=.returned (.tuple #[zIx,ev])/\Bw pb ev)/\Below w.heap.size w w'
structure Hd7 (w u:World) (r:ByteArray) (vp:Value) (log:ByteArray) (syn:Int):Prop where
 disk:an u w.heap.size r vp log syn
 ans:jz u (w.heap.size+1) (.slice none 0 0) false 0 ⟨#[]⟩ (.slice none 0 0) ⟨#[]⟩ 0 (.slice none 0 0)
 bel:Below w.heap.size w u
theorem Hd7.below {w u u':World} {r:ByteArray} {b:Value} {log:ByteArray} {syn:Int}(h:Hd7 w u r b log syn) (a:Below u.heap.size u u'):Hd7 w u' r b log syn:=⟨h.disk.below a,h.ans.below a,h.bel.trans (a.mono h.bel.size)⟩
theorem Hd7.set {w u:World} {r:ByteArray} {a:Value} {log:ByteArray} {syn:Int}(h:Hd7 w u r a log syn){b k:Nat}(c:w.heap.size+1<b) (x:Value):Hd7 w (u.setCell ⟨b,k,none⟩ x) r a log syn :=
 ⟨(heap_setCell_other u ⟨b,k,none⟩ w.heap.size x (by show w.heap.size≠b;omega)).trans h.disk,(heap_setCell_other u ⟨b,k,none⟩ (w.heap.size+1) x (by show w.heap.size+1≠b;omega)).trans h.ans,h.bel.setCell (p:=⟨b,k,none⟩) (by show w.heap.size<=b;omega) _⟩
def set8 (u:World) (p:Nat) (a b c d e f g h:Value):World:=(((((((u.setCell ⟨p,0,none⟩ a).setCell ⟨p,1,none⟩ b).setCell ⟨p,2,none⟩ c).setCell ⟨p,3,none⟩ d).setCell ⟨p,4,none⟩ e).setCell ⟨p,5,none⟩ f).setCell ⟨p,6,none⟩ g).setCell ⟨p,7,none⟩ h
theorem y5 (u:World) (p:Nat) (a b c d e f g h:Value):u.grownBy (set8 u p a b c d e f g h) (some p) :=
 (((((((d8 u p 0 a).trans (d8 _ p 1 b)).trans (d8 _ p 2 c)).trans (d8 _ p 3 d)).trans (d8 _ p 4 e)).trans (d8 _ p 5 f)).trans (d8 _ p 6 g)).trans (d8 _ p 7 h)
theorem tr {w u:World} {p:Nat}(h:Below w.heap.size w u) (i:w.heap.size<=p) (a b c d e f g k:Value):Below w.heap.size w (set8 u p a b c d e f g k) :=
 Below.grown h (y5 u p a b c d e f g k) h.size (fun j hj=>by have:=Option.some.inj hj;omega)
theorem Gy {R:RA} {ss:List ByteArray} {log:ByteArray}(h:bu ss=none):eb R ss log=none:=by unfold eb;rw[h]
theorem Gz {R:RA} {ss:List ByteArray} {log:ByteArray}(h:R.code≠0):eb R ss log=none:=by
 unfold eb;split
 .rfl
 .rw[if_neg (fun c=>h c.1)]
theorem H0 {R:RA} {ss:List ByteArray} {log:ByteArray} {gs:List (List Rw)}(h:bu ss=some gs) (a:ig R gs.flatten=false):eb R ss log=none:=by
 unfold eb;rw[h];show (if _ then _ else _)=none
 rw[if_neg (fun c=>by rw[a]at c;exact absurd c.2.1 (by simp))]
theorem Au {R:RA} {ss:List ByteArray} {log:ByteArray}(h:¬ log.size<=6000):eb R ss log=none:=by
 unfold eb;split
 .rfl
 .rw[if_neg (fun c=>h c.2.2)]
theorem Me {R:RA} {ss:List ByteArray} {log:ByteArray} {gs:List (List Rw)}(h:bu ss=some gs) (h0:R.code=0) (a:ig R gs.flatten=true) (b:log.size<=6000):eb R ss log=(im log).bind (pr R gs.flatten):=by
 unfold eb;rw[h];show (if _ then _ else _)=_
 rw[if_pos ⟨h0,a,b⟩];rfl
theorem ab1 {R:RA} {l:List Rw} {os:List Dn} {k:Nat} {o:Dn}(h:os[k]? = some o):pr R l (os.drop k)=if apC R l o=0 then pr R (apR R l o) (os.drop (k+1)) else none:=by
 obtain⟨a,rfl⟩:=List.getElem?_eq_some_iff.1 h;rw[List.drop_eq_getElem_cons a];rfl
theorem Uk:∀ (f:Nat) (s:ByteArray) (os:List Dn),oc f s=some os->∀ o ∈ os,o.text.size<=255/\o.val.size<=255
 | 0,s,os,h=>by
  unfold oc at h;split at h
  .cases h;simp
  .cases h
 | f+1,s,os,h=>by
  unfold oc at h;split at h
  .cases h;simp
  .cases hr:bm s with
   | none=>rw[hr]at h;cases h
   | some p =>
    obtain⟨o,n⟩:=p;rw[hr]at h
    cases hf:oc f (s.extract n s.size) with
    | none=>simp only[hf]at h;cases h
    | some os' =>
     simp only[hf,Option.map_some]at h
     cases h
     intro q a;rcases List.mem_cons.1 a with rfl|a
     .exact⟨(Up hr).1,(Up hr).2.1⟩
     .exact Uk f _ _ hf q a
def at3 (w W:World) (bi:Nat) (ve:Value) (R:RA) (r:ByteArray) (vd:Value) (vp:Value) (ss:List ByteArray) (log:ByteArray) (syn:Int) (vo:Value) (os:List Dn) (ANS:Option (List Rw)) (i:Value) (wr:World):Prop :=
 ∃ (k:Nat) (vr:Value) (l:List Rw),k<=os.length/\i=.int .i64 (k:Int)/\Ix7 wr w.heap.size bi ve R r vp ss log syn vr l/\Hd7 w wr r vd log syn/\Dos wr W.heap.size vo os/\jv R l/\pr R l (os.drop k)=ANS
structure ql (w:World) (ty:TypeId) (pv:Value) (pb pl pf pn:Addr):Prop where
 tabs:fh w
 lack:fw w ty pv
 errs:Ev7 w pb pl pf pn
theorem ql.below {w w':World} {ty:TypeId} {pv:Value} {pb pl pf pn:Addr}(h:ql w ty pv pb pl pf pn) (a:Below w.heap.size w w'):ql w' ty pv pb pl pf pn :=
 ⟨h.tabs.below a,(a.cell (p:=⟨6,0,none⟩) h.lack.lt).trans h.lack,h.errs.below a⟩
structure Dk7 (w:World) (B:Nat) (vd:Value) (d:Ds7):Prop where
 pages:ah w B vd d.ss
 ok:Ok7 d
theorem Dk7.below {w w':World} {B:Nat} {a:Value} {d:Ds7}(h:Dk7 w B a d) (b:Below w.heap.size w w'):Dk7 w' B a d:=⟨h.pages.below b,h.ok⟩
theorem Dk7.form {w:World} {B:Nat} {b:Value} {d:Ds7}(h:Dk7 w B b d):∃ a c,b=.slice a d.ss.length c:=by
 obtain⟨a,c,e,_⟩:=gz h.pages;exact⟨a,c,e⟩
def ch (d:Ds7):Option (List Rw):=if lq d=true then fb d else none
theorem an1 {d:Ds7}(h:¬ (0<=d.syn/\d.syn<=(d.log.size:Int))):ch d=none:=by
 unfold ch lq;rw[if_neg (by simpa using h)]
theorem a91 {d:Ds7}(h:0<=d.syn/\d.syn<=(d.log.size:Int)):ch d=fb d:=by
 unfold ch lq;rw[if_pos (by simpa using h)]
theorem kz {d:Ds7} {l:List Rw}(h:ch d=some l):lq d=true/\fb d=some l:=by
 unfold ch at h;split at h
 .rename_i hs
  exact⟨hs,h⟩
 .cases h
theorem At {d:Ds7} {l:List Rw}(h:fb d=some l):bd (ab d.r).es (ab d.r).lv=true:=by
 unfold fb eb at h;split at h
 .cases h
 .split at h
  .rename_i hc
   exact (Cz d.r hc.1).1
  .cases h
theorem Ka {R:RA} {ss:List ByteArray} {gs:List (List Rw)}(b:qw ss) (a:bu ss=some gs) (h:ig R gs.flatten=true):jv R gs.flatten:=by
 have d:=(xk a).1;refine⟨yh d.pw,(b gs a).1,fun x hx=>?_,fun x hx=>?_⟩
 .obtain⟨g,f,e⟩:=List.mem_flatten.1 hx
  have c:=(pi.1 (d.good g f).1).2.1 x e;unfold sz1 at c;rw[Bool.and_eq_true,Bool.and_eq_true,decide_eq_true_eq]at c;exact⟨((b gs a).2 x hx).1,((b gs a).2 x hx).2,c.1.1⟩
 .have:=List.all_eq_true.1 h x hx
  simpa using this
def OpQ (w:World) (o:Option (List Rw)) (d:Ds7) (pb:Addr) (e:Ending) (w':World):Prop :=
 (match o with
  | some l=>∃ ve vp vr,e=.returned (.tuple #[ixV ve (ab d.r) d.r vp d.log d.syn vr,.nilIface])/\ac w' w.heap.size ve (ab d.r).es/\ah w' w.heap.size vp d.ss/\Rws w' w.heap.size vr l
  | none=>∃ ev,e=.returned (.tuple #[zIx,ev])/\Bw pb ev)/\Below w.heap.size w w'
theorem a61 {u:World} {p:Nat} {cs:Array Value} {t:TypeId}(D:cs.size=8) (h:u.heap[p]? = some (.cells cs t)) (a b c d e f g k:Value):(set8 u p a b c d e f g k).heap[p]? = some (.cells #[a,b,c,d,e,f,g,k] t):=by
 obtain⟨i,j,m,n,o,q,r,s,rfl⟩:∃ i j m n o q r s,cs=#[i,j,m,n,o,q,r,s]:=by
  obtain⟨l⟩:=cs;match l,D with
  | [i,j,m,n,o,q,r,s],_=>exact⟨i,j,m,n,o,q,r,s,rfl⟩
 have v:=heap_setCell_same u p 0 _ _ a h;have w:=heap_setCell_same _ p 1 _ _ b v;have x:=heap_setCell_same _ p 2 _ _ c w;have y:=heap_setCell_same _ p 3 _ _ d x;have z:=heap_setCell_same _ p 4 _ _ e y;have A:=heap_setCell_same _ p 5 _ _ f z;have B:=heap_setCell_same _ p 6 _ _ g A;have C:=heap_setCell_same _ p 7 _ _ k B;unfold set8;rw[C];simp
theorem bf7 {u:World} {a p:Nat} {j k vr:Value} {es:List Ent} {ss:List ByteArray} {l:List Rw} {cs:Array Value}(h1:ac u a j es) (h2:ah u a k ss) (i:Rws u a vr l) (h:u.heap[p]? = some (.cells cs 71)) (b c a3 a4 a5 d e f:Value) :
  ac (set8 u p b c a3 a4 a5 d e f) a j es/\ah (set8 u p b c a3 a4 a5 d e f) a k ss/\Rws (set8 u p b c a3 a4 a5 d e f) a vr l :=
 have g:=y5 u p b c a3 a4 a5 d e f;⟨h1.boxT h (by decide) (by decide) g,World.ownsRow.kept h2 g (ic h2 h (by decide)),World.ownsRow.kept i g (ic i h (by decide))⟩
theorem a67 {u:World} {a:Nat} {c:Value} {R:RA} {r:ByteArray} {d:Value} {ss:List ByteArray} {log:ByteArray} {syn:Int} {vr:Value} {l:List Rw}(h1:ac u a c R.es) (h2:ah u a d ss) (f:Rws u a vr l) (e:a<=u.heap.size) :
  Ix7 (u.alloc (.cells #[c,.bool R.sh,.int .i64 R.lv,.string r,d,.string log,.int .i64 syn,vr] 71)) a u.heap.size c R r d ss log syn vr l :=
 have b:=(Below.refl u.heap.size u).alloc bR (.cells #[c,.bool R.sh,.int .i64 R.lv,.string r,d,.string log,.int .i64 syn,vr] 71);⟨heap_alloc_new u _,h1.below b,h2.below b,f.below b,e⟩
def b43 (w:World) (R:RA) (ss:List ByteArray) (log:ByteArray) (e:Ending) (w':World):Prop :=
 ∃ ve vr,e=.returned (.tuple #[.agg #[ve,.bool R.sh,.int .i64 R.lv],vr,.bool (eb R ss log).isSome])/\ac w' w.heap.size ve R.es/\Rws w' w.heap.size vr ((eb R ss log).getD [])/\Below w.heap.size w w'
theorem lr.free {u:World} {p:Nat} {v:Value} {sh:Bool} {lv:Int}(h:lr u p v sh lv) (j:Nat):u.frozen? ⟨p,j,none⟩=false:=frozen_of_row _ _ j _ _ h
structure Hs7 (w u:World) (br:Nat) (r:ByteArray) (vp:Value) (log:ByteArray) (syn:Int) (ve:Value) (R:RA):Prop where
 disk:an u w.heap.size r vp log syn
 ans:lr u (w.heap.size+1) (.slice none 0 0) false 0
 rul:lr u br ve R.sh R.lv
 ents:ac u w.heap.size ve R.es
 bel:Below w.heap.size w u
theorem Hs7.below {w u u':World} {b:Nat} {r:ByteArray} {d:Value} {log:ByteArray} {syn:Int} {c:Value} {R:RA}(h:Hs7 w u b r d log syn c R) (a:Below u.heap.size u u'):Hs7 w u' b r d log syn c R :=
 ⟨h.disk.below a,h.ans.below a,h.rul.below a,h.ents.below a,h.bel.trans (a.mono h.bel.size)⟩
def Ii (u:World) (p:Nat) (a b c:Value):World:=((u.setCell ⟨p,0,none⟩ a).setCell ⟨p,1,none⟩ b).setCell ⟨p,2,none⟩ c
theorem Kc (u:World) (p:Nat) (a b c:Value):u.grownBy (Ii u p a b c) (some p):=((d8 u p 0 a).trans (d8 _ p 1 b)).trans (d8 _ p 2 c)
theorem Hs7.done {w u:World} {c:Nat} {r:ByteArray} {d:Value} {log:ByteArray} {syn:Int} {a:Value} {R:RA}(h:Hs7 w u c r d log syn a R){vr:Value} {l:List Rw}(b:Rws u w.heap.size vr l) :
  ac (Ii u (w.heap.size+1) a (.bool R.sh) (.int .i64 R.lv)) w.heap.size a R.es/\Rws (Ii u (w.heap.size+1) a (.bool R.sh) (.int .i64 R.lv)) w.heap.size vr l/\Below w.heap.size w (Ii u (w.heap.size+1) a (.bool R.sh) (.int .i64 R.lv)) :=
 have g:=Kc u (w.heap.size+1) a (.bool R.sh) (.int .i64 R.lv);⟨h.ents.boxT h.ans (by decide) (by decide) g,World.ownsRow.kept b g (ic b h.ans (by decide)),Below.grown h.bel g h.bel.size (fun j hj=>by have:=Option.some.inj hj;omega)⟩
theorem ij {b:Func} {p u u2:Tmp} {ty:TypeId}(h:b.results=#[.cell p ty,.tmp u,.tmp u2]) (tmps:Array Value) (P:Program) (w:World) :
  (results b tmps).run P w=((asAddr (tmps.getD p undef)).run P w).andThen fun a w₁=>((loadVar ty a).run P w₁).andThen fun v w₂=>.ok (.tuple #[v,tmps.getD u undef,tmps.getD u2 undef]) w₂:=by
 simp only[results,h];simp[Sem.run_bind,Result.andThen]
theorem Hs7.grown {w u u':World} {c B:Nat} {r:ByteArray} {i:Value} {log:ByteArray} {syn:Int} {f:Value} {R:RA} {v:Value} {l:List Rw}(h:Hs7 w u c r i log syn f R) (n:Rws u B v l) (x:w.heap.size<=B) (g:u.grownBy u' v.ownBlock):Hs7 w u' c r i log syn f R:=by
 rcases n.2 with ⟨rfl,_⟩|⟨gb,o,q,rfl,s,d,_⟩
 .exact h.below (Below.grown bX g bR (fun j hj=>by cases hj))
 .have b:∀ (p:Nat) (a:Array Value) (t:TypeId),37≠t->u.heap[p]? = some (.cells a t (0,0))->u'.heap[p]? = some (.cells a t (0,0)):=fun p a t ht hp=>by
   refine (g.block p (Array.getElem?_eq_some_iff.1 hp).1 (fun e=>?_)).trans hp;have:p=gb:=Option.some.inj e;subst this;rw[d]at hp;injection hp with k;injection k with _ m _;exact ht m
  exact⟨b _ _ _ (by decide) h.disk,b _ _ _ (by decide) h.ans,b _ _ _ (by decide) h.rul,h.ents.boxT d (by decide) (by decide) g,Below.grown h.bel g h.bel.size (fun j hj=>by have:gb=j:=Option.some.inj hj;omega)⟩
theorem pt (u:World) (B:Nat):Rws u B (.slice none 0 0) []:=World.ownsRow_nil _ _ _ _
theorem W5 (gs:List (List Rw)) (k:Nat):(gs.take k).flatten.length<=gs.flatten.length:=by
 have h:gs.flatten=(gs.take k).flatten++(gs.drop k).flatten:=by rw[<- List.flatten_append,List.take_append_drop]
 rw[h,List.length_append];omega
def Ze (w w2:World) (br:Nat) (r:ByteArray) (vd:Value) (log:ByteArray) (syn:Int) (ve:Value) (R:RA) (f:Nat->List Rw) (m:Nat) (v i:Value) (wr:World):Prop :=
 ∃ k:Nat,k<=m/\i=.int .i64 (k:Int)/\Rws wr w2.heap.size v (f k)/\Hs7 w wr br r vd log syn ve R/\Below w2.heap.size w2 wr/\∀ x ∈ f k,dx R x.text=x.key
def b42 (w:World) (br:Nat) (r:ByteArray) (vd:Value) (log:ByteArray) (syn:Int) (ve:Value) (R:RA) (ANS:Option (List Rw)) (v sv:Value) (wr:World):Prop :=
 ∃ (l:List Rw) (s:ByteArray),sv=.string s/\Rws wr w.heap.size v l/\Hs7 w wr br r vd log syn ve R/\jv R l/\s.size<=6000/\jd R l s=ANS
theorem a69 {R:RA} {l:List Rw}(h:∀ x ∈ l,dx R x.text=x.key):ig R l=true:=by
 unfold ig;rw[List.all_eq_true];exact fun x hx=>decide_eq_true (h x hx)
theorem a70 {R:RA} {l:List Rw} {x:Rw}(h:x ∈ l) (a:dx R x.text≠x.key):ig R l=false:=by
 unfold ig;rw[List.all_eq_false];exact⟨x,h,by simpa using a⟩
theorem W4 {gs:List (List Rw)} {k:Nat} {g:List Rw}(h:gs[k]? = some g):(gs.take k).flatten++g=(gs.take (k+1)).flatten:=by
 rw[List.take_add_one,h];simp
theorem Sa {ss:List ByteArray} {gs:List (List Rw)}(d:bu ss=some gs):∀ x ∈ gs.flatten,x.key.size<=200:=fun x hx=>by
 have c:=(xk d).1;obtain⟨g,e,b⟩:=List.mem_flatten.1 hx;have a:=(pi.1 (c.good g e).1).2.1 x b;unfold sz1 at a;rw[Bool.and_eq_true,Bool.and_eq_true,decide_eq_true_eq]at a;exact a.1.1
theorem Xr {w:World} {B:Nat} {vd:Value} {ss:List ByteArray}(r log:ByteArray) (syn:Int) (hr:r.size<=1048576) (cm:log.size<=1048576) (hS:ah w B vd ss) (hz:∀ s ∈ ss,s.size<=1048576) (hl:ss.length<=1048576) (a9:qw ss) :
  Calls prog 32 #[.agg #[.string r,vd,.string log,.int .i64 syn]] w fun e w'=>b43 w (ab r) ss log e w':=by
 obtain⟨t,z,cc,_⟩:=gz hS;subst cc;obtain⟨W0,hW⟩:∃ W0,W0=(w.alloc (.cells #[.string r,.slice t ss.length z,.string log,.int .i64 syn] 25)).alloc (.cells #[.slice none 0 0,.bool false,.int .i64 0] 56):=⟨_,rfl⟩
 have bv:Below w.heap.size w W0:=by rw[hW];exact (bY _).alloc (by simp) _
 have cs:W0.heap.size=w.heap.size+2:=by rw[hW];simp
 have b6:an W0 w.heap.size r (.slice t ss.length z) log syn:=by
  show _=_
  rw[hW,Below.heap_alloc _ _ _ (by simp)];exact heap_alloc_new w _
 have bt:lr W0 (w.heap.size+1) (.slice none 0 0) false 0:=by
  have h:=heap_alloc_new (w.alloc (.cells #[.string r,.slice t ss.length z,.string log,.int .i64 syn] 25)) (.cells #[.slice none 0 0,.bool false,.int .i64 0] 56);rw[World.size_alloc]at h;show _=_
  rw[hW];exact h
 have aD:Hid (∀ u,Below w.heap.size w u->ah u B (.slice t ss.length z) ss):=fun u hu=>hS.below hu
 obtain⟨R,G⟩:∃ R,R=ab r:=⟨_,rfl⟩
 obtain⟨a8,a7⟩:∃ c,c=R.code:=⟨_,rfl⟩
 have RD:Calls prog 23 #[.string r] W0 fun e w'=>∃ vE,e=.returned (.tuple #[.agg #[vE,.bool R.sh,.int .i64 R.lv],.int .i64 a8])/\ac w' W0.heap.size vE R.es/\Below W0.heap.size W0 w':=by rw[a7,G];exact Qe r W0 (by omega)
 rw[<- G];have aN:Hid (a8=0->bd R.es R.lv=true):=fun h=>by rw[a7,G]at h;rw[G];exact (Cz r h).1
 have ar:Hid (a8=R.code):=a7;have HZ:Hid (∀ s ∈ ss,s.size<=1048576):=hz;have aw:Hid (qw ss):=a9;have aX:Hid (an W0 w.heap.size r (.slice t ss.length z) log syn):=b6;have bh:Hid (lr W0 (w.heap.size+1) (.slice none 0 0) false 0):=bt;have aW:Hid (Below w.heap.size w W0):=bv;have HW:Hid (W0=(w.alloc (.cells #[.string r,.slice t ss.length z,.string log,.int .i64 syn] 25)).alloc (.cells #[.slice none 0 0,.bool false,.int .i64 0] 56)):=hW;obtain⟨bb,d0,d1,d2,d3,df⟩:=b6.facts;clear hS hz a9 b6 bt bv hW G a7;go_enter func32,ntmps32;go_wp2_with fail;rw[<- HW.out];clear HW;go_wp2_with fail;refine RD.mono ?_;rintro e A ⟨v1,rfl,e1,b1⟩;obtain⟨a,d,c9⟩:=ef e1;subst c9;obtain⟨W1,aU⟩:∃ W1,W1=A.alloc (.cells #[.slice a R.es.length d,.bool R.sh,.int .i64 R.lv] 56):=⟨_,rfl⟩
 have bA:Below A.heap.size A W1:=by rw[aU];exact bY _
 have aR:Below W0.heap.size W0 W1:=b1.trans (bA.mono b1.size);have cg:w.heap.size+1<A.heap.size:=by have:=b1.size;omega
 have aS:Hs7 w W1 A.heap.size r (.slice t ss.length z) log syn (.slice a R.es.length d) R:=⟨aX.out.below aR,bh.out.below aR,by show _=_;rw[aU];exact heap_alloc_new A _,ac.low (e1.below bA) (by omega),aW.out.trans (aR.mono aW.out.size)⟩;have OB:=Tm (aD.out W1 aS.bel) HZ.out hl;obtain⟨bb,d0,d1,d2,d3,df⟩:=(aX.out.below b1).facts;have aJ:Hid (Hs7 w W1 A.heap.size r (.slice t ss.length z) log syn (.slice a R.es.length d) R):=aS;have br:Hid (W1=A.alloc (.cells #[.slice a R.es.length d,.bool R.sh,.int .i64 R.lv] 56)):=aU;have cf:w.heap.size<=W1.heap.size:=aS.bel.size;clear RD e1 b1 bA aR aS aU;go_wp2_with fail;rw[<- br.out];refine OB.mono ?_;rintro e C ⟨v2,rfl,hN,b2⟩;have I:Hid (Hs7 w C A.heap.size r (.slice t ss.length z) log syn (.slice a R.es.length d) R):=aJ.out.below b2;obtain⟨bb,d0,d1,d2,d3,df⟩:=I.out.disk.facts
 clear OB b2 aJ br aX bh aW
 cases hbk:bu ss with
 | none =>
  have D:Hid (eb R ss log=none):=Gy hbk;have bV:((none:Option (List (List Rw))).isSome)=false:=rfl;clear hN hbk aD HZ aw aN;by_cases P:a8=0
  .subst P
   clear ar;obtain⟨a4,ai,aj,ak⟩:=I.out.ans.facts;have a3:=I.out.ans.free;obtain⟨a5,aa,ae,af⟩:=I.out.rul.facts;obtain⟨m,q,g⟩:=I.out.done (pt _ _);have K:Hid (ac _ _ _ _):=m;have L:Hid (Rws _ _ _ _):=q;have M:Hid _:=g;clear m q g;go_wp2;refine bodyPost_ret (v:=.tuple #[.agg #[.slice a R.es.length d,.bool R.sh,.int .i64 R.lv],.slice none 0 0,.bool false]) ?_ rfl ⟨.slice a R.es.length d,.slice none 0 0,by rw[D.out];rfl,K.out,by rw[D.out];exact L.out,M.out⟩;rw[ij rfl];go_simp
  .have bT:(a8 != 0)=true:=by simpa using P
   clear ar P;obtain⟨a4,ai,aj,ak⟩:=I.out.ans.facts;have a3:=I.out.ans.free;obtain⟨a5,aa,ae,af⟩:=I.out.rul.facts;obtain⟨m,q,g⟩:=I.out.done (pt _ _);have K:Hid (ac _ _ _ _):=m;have L:Hid (Rws _ _ _ _):=q;have M:Hid _:=g;clear m q g;go_wp2;refine bodyPost_ret (v:=.tuple #[.agg #[.slice a R.es.length d,.bool R.sh,.int .i64 R.lv],.slice none 0 0,.bool false]) ?_ rfl ⟨.slice a R.es.length d,.slice none 0 0,by rw[D.out];rfl,K.out,by rw[D.out];exact L.out,M.out⟩;rw[ij rfl];go_simp
 | some f =>
  have bV:((some f:Option (List (List Rw))).isSome)=true:=rfl;obtain⟨vs,N2⟩:=hN f hbk;have aI:Hid (bu ss=some f):=hbk;by_cases P:¬ a8=0
  .have bT:(a8 != 0)=true:=by simpa using P
   have D:Hid (eb R ss log=none):=Gz (fun c=>P (ar.out.trans c));clear ar P N2 hN aD HZ aw aN hbk;obtain⟨a4,ai,aj,ak⟩:=I.out.ans.facts;have a3:=I.out.ans.free;obtain⟨a5,aa,ae,af⟩:=I.out.rul.facts;obtain⟨m,q,g⟩:=I.out.done (pt _ _);have K:Hid (ac _ _ _ _):=m;have L:Hid (Rws _ _ _ _):=q;have M:Hid _:=g;clear m q g;go_wp2;refine bodyPost_ret (v:=.tuple #[.agg #[.slice a R.es.length d,.bool R.sh,.int .i64 R.lv],.slice none 0 0,.bool false]) ?_ rfl ⟨.slice a R.es.length d,.slice none 0 0,by rw[D.out];rfl,K.out,by rw[D.out];exact L.out,M.out⟩;rw[ij rfl];go_simp
  replace P:a8=0:=Decidable.not_not.1 P;have bo:Hid (R.code=0):=ar.out.symm.trans P;have bz:=aN.out P;clear ar aN;subst P;by_cases h6:¬ log.size<=6000
  .have bc:(6000:Int)<(log.size:Int):=by omega
   have D:Hid (eb R ss log=none):=Au h6;clear h6 N2 hN aD HZ aw hbk;obtain⟨a4,ai,aj,ak⟩:=I.out.ans.facts;have a3:=I.out.ans.free;obtain⟨a5,aa,ae,af⟩:=I.out.rul.facts;obtain⟨m,q,g⟩:=I.out.done (pt _ _);have K:Hid (ac _ _ _ _):=m;have L:Hid (Rws _ _ _ _):=q;have M:Hid _:=g;clear m q g;go_wp2;refine bodyPost_ret (v:=.tuple #[.agg #[.slice a R.es.length d,.bool R.sh,.int .i64 R.lv],.slice none 0 0,.bool false]) ?_ rfl ⟨.slice a R.es.length d,.slice none 0 0,by rw[D.out];rfl,K.out,by rw[D.out];exact L.out,M.out⟩;rw[ij rfl];go_simp
  replace h6:log.size<=6000:=Decidable.not_not.1 h6;have bc:¬ (6000:Int)<(log.size:Int):=by omega
  have aP:Hid (f.flatten.length<=60/\∀ x ∈ f.flatten,x.text.size<=60/\x.val.size<=60):=aw.out f hbk;have bl:Hid (∀ x ∈ f.flatten,x.key.size<=200):=Sa hbk;obtain⟨ck,aE⟩:=Nz hbk;have bj:Hid (∀ l ∈ f,l.length<=60):=aE;obtain⟨a2,c2,ca,fm⟩:=N2.form;subst ca;have bn:Hid (bg C W1.heap.size C.heap.size (.slice a2 f.length c2) f vs):=N2;have bi:Hid _:=fm;clear hN N2 fm hbk aE aD HZ;go_wp2_with fail;go_loopw [9,48] (fun v i wr=>Ze w C A.heap.size r (.slice t ss.length z) log syn (.slice a R.es.length d) R (fun k=>(f.take k).flatten) f.length v i wr) (fun _ i _=>f.length-(intOf i).toNat)
  case atStart=>exact⟨0,Nat.zero_le _,rfl,World.ownsRow_nil _ _ _ _,I.out,bX,fun x Q=>by simp at Q⟩
  case round =>
   obtain⟨k,hk,rfl,G,J,W,Y⟩:=hrel;by_cases c6:k<f.length
   .obtain⟨l,aG⟩:∃ l,f[k]? = some l:=by exact⟨_,List.getElem?_eq_getElem c6⟩
    obtain⟨x,Q,hI,_⟩:=bn.out.ins k l aG;obtain⟨gb,rfl,_,c1,cb,_⟩:=bi.out k x Q;have bS:wr.cell? ⟨gb,k,none⟩=some x:=(W.cell (p:=⟨gb,k,none⟩) c1).trans cb;have c3:=ag bS;have c7:(k:Int)<(f.length:Int):=by omega
    have c5:=bj.out l (List.mem_of_getElem? aG);obtain⟨ax,cx,rfl⟩:=db hI;have bP:Hid (∀ u,Below C.heap.size C u->dc u ax l):=fun u hu=>ja (hI.below hu)
    have bq:Hid ((f.take k).flatten++l=(f.take (k+1)).flatten):=W4 aG;have bM:Hid (∀ x ∈ l,x ∈ f.flatten):=fun x Q=>List.mem_flatten.2 ⟨l,List.mem_of_getElem? aG,Q⟩
    have bU:(f.take k).flatten.length<=60:=Nat.le_trans (W5 f k) aP.out.1;obtain⟨T,bF⟩:∃ T,Hid ((f.take k).flatten=T):=⟨_,rfl⟩
    have O:Rws wr C.heap.size u9 ((f.take k).flatten):=G;have V:∀ x ∈ (f.take k).flatten,dx R x.text=x.key:=Y
    rw[bF.out]at O bU bq V;have HR:Hid (Rws wr C.heap.size u9 T):=O;have HB:Hid (Below C.heap.size C wr):=W;have S:Hid (Hs7 w wr A.heap.size r (.slice t ss.length z) log syn (.slice a R.es.length d) R):=J;have bL:Hid (∀ x ∈ T,dx R x.text=x.key):=V;obtain⟨w6,rfl⟩:∃ w6,w6=wr:=⟨_,rfl⟩
    clear G O W hI Q aG cb Y V J;go_wp2_with fail;go_loopw [9,54] (fun v i wr=>Ze w C A.heap.size r (.slice t ss.length z) log syn (.slice a R.es.length d) R (fun k=>T++l.take k) l.length v i wr) (fun _ i _=>l.length-(intOf i).toNat)
    case atStart=>exact⟨0,Nat.zero_le _,rfl,by simpa using HR.out,S.out,HB.out,by simpa using bL.out⟩
    case round =>
     obtain⟨j,hj,rfl,G,J,W,Y⟩:=hrel;by_cases c4:j<l.length
     .obtain⟨x,Q⟩:∃ x,l[j]? = some x:=by exact⟨_,List.getElem?_eq_getElem c4⟩
      rcases bP.out wr W with P|⟨b,o,rfl,hE⟩
      .rw[P]at Q;simp at Q
      obtain⟨a0,a1,a2⟩:=hE j x Q;have ci:=ag a0;have cl:(j:Int)<(l.length:Int):=by omega
      have bf:=bM.out x (List.mem_of_getElem? Q);obtain⟨bB,cv⟩:=aP.out.2 x bf;have ch:¬ (60:Int)<(x.val.size:Int):=by omega
      have aF:=bl.out x bf;have b5:Below wr.heap.size wr (wr.alloc (.cells #[.string x.key,.string x.text,.string x.val] 37)):=bY _;have ba:=J.below b5;have X:=Eg x.text (by omega) ba.ents bz;rw[if_pos bB]at X;obtain⟨aA,u0,u1,u2⟩:=J.rul.facts;have ay:Hid (f9 (wr.alloc (.cells #[.string x.key,.string x.text,.string x.val] 37)) wr.heap.size x):=o7 wr x;have aQ:Hid (l[j]? = some x):=Q;obtain⟨F1,aY⟩:∃ F1,Hid (T++l.take j=F1):=⟨_,rfl⟩
      have O:Rws wr C.heap.size u9 F1:=by rw[<- aY.out];exact G
      have bx:F1.length<=200:=by rw[<- aY.out,List.length_append,List.length_take];omega
      obtain⟨Z,rc,hv⟩:=db O;subst hv;have aL:Hid (Rws (wr.alloc (.cells #[.string x.key,.string x.text,.string x.val] 37)) C.heap.size (.slice Z F1.length rc) F1):=O.below b5;have au:Hid (Hs7 w (wr.alloc (.cells #[.string x.key,.string x.text,.string x.val] 37)) A.heap.size r (.slice t ss.length z) log syn (.slice a R.es.length d) R):=ba;have am:Hid (Below C.heap.size C (wr.alloc (.cells #[.string x.key,.string x.text,.string x.val] 37))):=W.trans (b5.mono W.size);have aZ:Hid (∀ x ∈ T++l.take j,dx R x.text=x.key):=Y;clear G O W hE Q J ba b5 Y;by_cases ap:dx R x.text=x.key
      .have a6:iz R x.text=true:=by unfold iz;rw[ap,decide_eq_true bB,decide_eq_true aF];rfl
       rw[a6,ap]at X;have bK:Hid (∀ y ∈ T++l.take (j+1),dx R y.text=y.key):=fun y hy=>by
        rw[List.take_add_one,aQ.out,<- List.append_assoc]at hy;rcases List.mem_append.1 hy with hy|hy
        .exact aZ.out y hy
        .obtain rfl:y=x:=by simpa using hy
         exact ap
       have bN:Hid (T++l.take (j+1)=F1++[x]):=by show _=_;rw[<- aY.out,List.take_add_one,aQ.out,List.append_assoc];rfl
       clear ap a6 aZ aQ;go_wp2_with fail;refine X.mono ?_;rintro e E ⟨rfl,H⟩;have U:=ay.out.below H;obtain⟨e0,e1,e2⟩:=U.cells;have bw:=U.lt;have bA:=(Below.refl E.heap.size E).alloc bR (.cells #[.string x.key,.string x.text,.string x.val] 37);have bs:Hid (SlV (E.alloc (.cells #[.string x.key,.string x.text,.string x.val] 37)) (.slice (some ⟨E.heap.size,0,none⟩) 1 1) [x]):=(kh E _ E.heap.size x rfl bR).slV;have aM:Hid (Rws (E.alloc (.cells #[.string x.key,.string x.text,.string x.val] 37)) C.heap.size (.slice Z F1.length rc) F1):=(aL.out.below H).below bA;have bk:Hid (Hs7 w (E.alloc (.cells #[.string x.key,.string x.text,.string x.val] 37)) A.heap.size r (.slice t ss.length z) log syn (.slice a R.es.length d) R):=(au.out.below H).below bA
       have aH:Hid (Below C.heap.size C (E.alloc (.cells #[.string x.key,.string x.text,.string x.val] 37))):=(am.out.trans (H.mono am.out.size)).trans (bA.mono (am.out.trans (H.mono am.out.size)).size);clear X H bA U ay aL au am u0 u1 u2 aA a0 a1 a2;go_wp2_with (at_builtin;refine gi rfl _ _ rfl C.heap.size (.slice Z F1.length rc) (.slice (some ⟨E.heap.size,0,none⟩) 1 1) F1 [x] rfl rfl aM.out bs.out (by simp;omega) aH.out.size ?_)
       intro v8 w8 r8 g8;have bG:Hid (Hs7 w w8 A.heap.size r (.slice t ss.length z) log syn (.slice a R.es.length d) R):=bk.out.grown aM.out I.out.bel.size g8;have bE:Hid (Below C.heap.size C w8):=Below.grown aH.out g8 aH.out.size (fun j hj=>(World.ownsRow.lt aM.out j hj).1);have b4:Hid (Rws w8 C.heap.size v8 (F1++[x])):=r8;clear r8 g8 aM bk aH bs;go_wp2;exact⟨⟨j+1,by omega,by go_num,(by show Rws _ _ _ (T++l.take (j+1));rw[bN.out];exact b4.out),bG.out,bE.out,bK.out⟩,by simp[intOf];omega⟩
      .have D:Hid (eb R ss log=none):=H0 aI.out (a70 bf ap)
       have cr:=zc ap;clear ap aZ aQ;generalize dx R x.text=key at *
       cases a6:iz R x.text
       .rw[a6]at X
        clear a6;go_wp2_with fail;refine X.mono ?_;rintro e E ⟨rfl,H⟩;have U:=ay.out.below H;obtain⟨e0,e1,e2⟩:=U.cells;have bw:=U.lt;have N:Hid (Hs7 w E A.heap.size r (.slice t ss.length z) log syn (.slice a R.es.length d) R):=au.out.below H;clear X H U ay aL au am u0 u1 u2 aA a0 a1 a2;obtain⟨a4,ai,aj,ak⟩:=N.out.ans.facts;have a3:=N.out.ans.free;obtain⟨a5,aa,ae,af⟩:=N.out.rul.facts;obtain⟨m,q,g⟩:=N.out.done (pt _ _);have K:Hid (ac _ _ _ _):=m;have L:Hid (Rws _ _ _ _):=q;have M:Hid _:=g;clear m q g;go_wp2;refine bodyPost_ret (v:=.tuple #[.agg #[.slice a R.es.length d,.bool R.sh,.int .i64 R.lv],.slice none 0 0,.bool false]) ?_ rfl ⟨.slice a R.es.length d,.slice none 0 0,by rw[D.out];rfl,K.out,by rw[D.out];exact L.out,M.out⟩;rw[ij rfl];go_simp
       .rw[a6]at X
        clear a6;go_wp2_with fail;refine X.mono ?_;rintro e E ⟨rfl,H⟩;have U:=ay.out.below H;obtain⟨e0,e1,e2⟩:=U.cells;have bw:=U.lt;have N:Hid (Hs7 w E A.heap.size r (.slice t ss.length z) log syn (.slice a R.es.length d) R):=au.out.below H;clear X H U ay aL au am u0 u1 u2 aA a0 a1 a2;obtain⟨a4,ai,aj,ak⟩:=N.out.ans.facts;have a3:=N.out.ans.free;obtain⟨a5,aa,ae,af⟩:=N.out.rul.facts;obtain⟨m,q,g⟩:=N.out.done (pt _ _);have K:Hid (ac _ _ _ _):=m;have L:Hid (Rws _ _ _ _):=q;have M:Hid _:=g;clear m q g;go_wp2;refine bodyPost_ret (v:=.tuple #[.agg #[.slice a R.es.length d,.bool R.sh,.int .i64 R.lv],.slice none 0 0,.bool false]) ?_ rfl ⟨.slice a R.es.length d,.slice none 0 0,by rw[D.out];rfl,K.out,by rw[D.out];exact L.out,M.out⟩;rw[ij rfl];go_simp
     .obtain rfl:j=l.length:=by omega
      have O:Rws wr C.heap.size _ (T++l.take l.length):=G;have V:∀ x ∈ T++l.take l.length,dx R x.text=x.key:=Y
      rw[List.take_length,bq.out]at O V;have b0:Hid (Rws _ _ _ _):=O;have bD:Hid (Below C.heap.size C wr):=W;have aJ:Hid (Hs7 w wr A.heap.size r (.slice t ss.length z) log syn (.slice a R.es.length d) R):=J;have bI:Hid (∀ x ∈ (f.take (k+1)).flatten,dx R x.text=x.key):=V;clear G O W J Y V;go_wp2;exact⟨⟨k+1,by omega,by go_num,b0.out,aJ.out,bD.out,bI.out⟩,by simp[intOf];omega⟩
   .obtain rfl:k=f.length:=by omega
    have O:Rws wr C.heap.size _ ((f.take f.length).flatten):=G;have V:∀ x ∈ (f.take f.length).flatten,dx R x.text=x.key:=Y
    rw[List.take_length]at O V;have aq:=a69 V;have bO:Hid (jv R f.flatten):=Ka aw.out aI.out aq;have bW:=aP.out.1;obtain⟨al,ao⟩:∃ al,al=eb R ss log:=⟨_,rfl⟩
    have aV:Hid (al=eb R ss log):=ao;have bQ:Hid (jd R f.flatten log=al):=by show _=_;rw[ao,Me aI.out bo.out aq h6];rfl
    generalize f.flatten=F at *;obtain⟨Z,rc,hv⟩:=db O;subst hv;have c0:¬ (60:Int)<(F.length:Int):=by omega
    have b0:Hid (Rws _ w.heap.size (.slice Z F.length rc) F):=ff O I.out.bel.size;have bH:Hid (Hs7 w wr A.heap.size r (.slice t ss.length z) log syn (.slice a R.es.length d) R):=J;obtain⟨bb,d0,d1,d2,d3,df⟩:=J.disk.facts;obtain⟨w6,rfl⟩:∃ w6,w6=wr:=⟨_,rfl⟩
    clear G O W J Y V aq ao aP bl bj bn bi aw aI bo;go_wp2_with fail;go_loopw [9,16] (fun v sv wr=>b42 w A.heap.size r (.slice t ss.length z) log syn (.slice a R.es.length d) R al v sv wr) (fun _ sv _=>F6 sv)
    case atStart=>exact⟨F,log,rfl,b0.out,bH.out,bO.out,h6,bQ.out⟩
    case round =>
     obtain⟨l,s,rfl,G,J,aT,ct,hA⟩:=hrel;obtain⟨Z,rc,hv⟩:=db G;subst hv;by_cases hp:0<s.size
     .have SR:=Qw s wr hp (by omega)
      have c8:(0:Int)<(s.size:Int):=by omega
      cases hrc:jh s with
      | none =>
       have D:Hid (eb R ss log=none):=by show _=_;rw[<- aV.out,<- hA];exact ab3 (by omega) hrc
       rw[hrc]at SR;have az:Calls prog 48 #[.string s] wr fun e w'=>e=.returned (.tuple #[.agg #[.int .i64 0,.string ⟨#[]⟩,.string ⟨#[]⟩],.int .i64 0])/\Below wr.heap.size wr w':=SR
       have S:Hid (Hs7 w wr A.heap.size r (.slice t ss.length z) log syn (.slice a R.es.length d) R):=J;clear SR J G aT hA hrc;go_wp2_with fail;refine az.mono ?_;rintro e E ⟨rfl,H⟩;have N:Hid (Hs7 w E A.heap.size r (.slice t ss.length z) log syn (.slice a R.es.length d) R):=S.out.below H;clear az H S;obtain⟨a4,ai,aj,ak⟩:=N.out.ans.facts;have a3:=N.out.ans.free;obtain⟨a5,aa,ae,af⟩:=N.out.rul.facts;obtain⟨m,q,g⟩:=N.out.done (pt _ _);have bZ:=(Below.refl (Ii E (w.heap.size+1) (.slice a R.es.length d) (.bool R.sh) (.int .i64 R.lv)).heap.size (Ii E (w.heap.size+1) (.slice a R.es.length d) (.bool R.sh) (.int .i64 R.lv))).alloc bR (.cells #[.int .i64 0,.string ⟨#[]⟩,.string ⟨#[]⟩] 27);replace m:=m.below bZ;replace q:=q.below bZ;replace g:=g.trans (bZ.mono g.size);have K:Hid (ac _ _ _ _):=m
       have L:Hid (Rws _ _ _ _):=q;have M:Hid _:=g;clear m q g;go_wp2;refine bodyPost_ret (v:=.tuple #[.agg #[.slice a R.es.length d,.bool R.sh,.int .i64 R.lv],.slice none 0 0,.bool false]) ?_ rfl ⟨.slice a R.es.length d,.slice none 0 0,by rw[D.out];rfl,K.out,by rw[D.out];exact L.out,M.out⟩;rw[ij rfl];go_simp
      | some p =>
       obtain⟨o,n⟩:=p;obtain⟨be,cu,ce⟩:=Yh hrc;obtain⟨cn,co⟩:=n7 be;rw[hrc]at SR;have az:Calls prog 48 #[.string s] wr fun e w'=>e=.returned (.tuple #[.agg #[.int .i64 (kn7 o),.string o.text,.string o.val],.int .i64 (n:Int)])/\Below wr.heap.size wr w':=SR
       have cp:((n:Int) == 0)=false:=by simp;omega
       have cq:(n:Int)<=(s.size:Int):=by omega
       have S:Hid (Hs7 w wr A.heap.size r (.slice t ss.length z) log syn (.slice a R.es.length d) R):=J;have bp:Hid (Rws wr w.heap.size (.slice Z l.length rc) l):=G;have aC:Hid (jv R l):=aT;have HA:Hid (jd R l s=al):=hA;have aO:Hid (bm s=some (o,n)):=be;have cj:=Dec.size_extract s n;obtain⟨kd,aq⟩:∃ kd,kd=kn7 o:=⟨_,rfl⟩
       have bJ:Hid (kd=kn7 o):=aq;rw[<- aq]at az;clear SR J G aT hA hrc be aq;go_wp2_with fail;refine az.mono ?_;rintro e E ⟨rfl,H⟩;have N:Hid (Hs7 w E A.heap.size r (.slice t ss.length z) log syn (.slice a R.es.length d) R):=S.out.below H;have b9:Below E.heap.size E (E.alloc (.cells #[.int .i64 kd,.string o.text,.string o.val] 27)):=bY _;have aK:Hid (Hs7 w (E.alloc (.cells #[.int .i64 kd,.string o.text,.string o.val] 27)) A.heap.size r (.slice t ss.length z) log syn (.slice a R.es.length d) R):=N.out.below b9;have AP:=It o (by omega) ce aK.out.ents bz ((bp.out.below H).below b9) aC.out.rise aC.out.len;rw[<- bJ.out]at AP;obtain⟨aA,u0,u1,u2⟩:=N.out.rul.facts;clear az H b9 S bp;by_cases hc:apC R l o=0
       .rw[decide_eq_true hc]at AP
        have bC:Hid (jd R (apR R l o) (s.extract n s.size)=al):=by show _=_;rw[<- HA.out,Ew aO.out hc]
        have b3:Hid (jv R (apR R l o)):=aC.out.step hc;have aB:Hid (apC R l o=0):=hc;clear hc HA aO aC;go_wp2_with fail;refine AP.mono ?_;rintro e w8 ⟨v8,rfl,r8,b8⟩;have b4:Hid (Rws w8 w.heap.size v8 (apR R l o)):=ff (r8 aB.out) aK.out.bel.size;have av:Hid (Hs7 w w8 A.heap.size r (.slice t ss.length z) log syn (.slice a R.es.length d) R):=aK.out.below b8;clear AP r8 b8 u0 u1 u2 aA aB;go_wp2;exact⟨⟨apR R l o,s.extract n s.size,rfl,b4.out,av.out,b3.out,by omega,bC.out⟩,by simp only[F6];omega⟩
       .have D:Hid (eb R ss log=none):=by show _=_;rw[<- aV.out,<- HA.out];exact Id aO.out hc
        rw[decide_eq_false hc]at AP;clear hc HA aO aC;go_wp2_with fail;refine AP.mono ?_;rintro e w8 ⟨v8,rfl,r8,b8⟩;have av:Hid (Hs7 w w8 A.heap.size r (.slice t ss.length z) log syn (.slice a R.es.length d) R):=aK.out.below b8;clear AP r8 b8 u0 u1 u2 aA;obtain⟨a4,ai,aj,ak⟩:=av.out.ans.facts;have a3:=av.out.ans.free;obtain⟨a5,aa,ae,af⟩:=av.out.rul.facts;obtain⟨m,q,g⟩:=av.out.done (pt _ _);have K:Hid (ac _ _ _ _):=m;have L:Hid (Rws _ _ _ _):=q;have M:Hid _:=g;clear m q g;go_wp2;refine bodyPost_ret (v:=.tuple #[.agg #[.slice a R.es.length d,.bool R.sh,.int .i64 R.lv],.slice none 0 0,.bool false]) ?_ rfl ⟨.slice a R.es.length d,.slice none 0 0,by rw[D.out];rfl,K.out,by rw[D.out];exact L.out,M.out⟩;rw[ij rfl];go_simp
     .have c8:¬ (0:Int)<(s.size:Int):=by omega
      have D:Hid (eb R ss log=some l):=by show _=_;rw[<- aV.out,<- hA];exact Ie (by omega)
      have S:Hid (Hs7 w wr A.heap.size r (.slice t ss.length z) log syn (.slice a R.es.length d) R):=J;obtain⟨a4,ai,aj,ak⟩:=S.out.ans.facts;have a3:=S.out.ans.free;obtain⟨a5,aa,ae,af⟩:=S.out.rul.facts;obtain⟨m,q,g⟩:=S.out.done G;have K:Hid (ac _ _ _ _):=m;have L:Hid (Rws _ _ _ _):=q;have M:Hid _:=g;clear m q g G J aT hA;go_wp2;refine bodyPost_ret (v:=.tuple #[.agg #[.slice a R.es.length d,.bool R.sh,.int .i64 R.lv],.slice Z l.length rc,.bool true]) ?_ rfl ⟨.slice a R.es.length d,.slice Z l.length rc,by rw[D.out];rfl,K.out,by rw[D.out];exact L.out,M.out⟩;rw[ij rfl];go_simp
theorem ar1 (l:List ByteArray):∀ u ∈ l.map Value.string,u.oneCell'=true:=fun u hu=>by
 obtain⟨x,_,rfl⟩:=List.mem_map.1 hu;rfl
theorem Lc {w:World} {o:Oper} {a:Act} {K:Act->World->Prop} {Q:Exit->Act->World->Prop}(s x:Operand)
  (m:o.op=.call { callee:=.builtin .append,args:=#[s,x],argTypes:=#[23,23] }) (B F:Nat) (v t:Value) (l l':List ByteArray) (p:a.eval s=v) (q:a.eval x=t) (e:ah w B v l) (i:ah w F t l')
  (I:l.length+l'.length<=2097152) (z:B<=w.heap.size) (h:∀ v' w',ah w' B v' (l++l')->w.grownBy w' v.ownBlock->K (a.put o.dst v') w'):Oper.wp prog o a w K Q:=by
 obtain⟨r,k,E,C,D⟩:=info_parts Pg;rcases i.form with ⟨rfl,rfl⟩|⟨g,f,rfl,_,_⟩
 .obtain⟨b,n,G,rfl,A⟩:∃ b n c,v=.slice b n c/\n<=c:=by
   rcases e.form with ⟨rfl,rfl⟩|⟨g,f,rfl,d,_⟩
   .exact⟨_,_,_,rfl,bR⟩
   .exact⟨_,_,_,rfl,d⟩
  refine Go.Lib.wp_append_run w s x 23 23 m _ _ p q _ _ (zj w _ _ _ r underlying23 k b n G 0 A) ?_;refine h _ _ ?_ ⟨rfl,rfl,rfl,bR,fun _ _ _=>rfl⟩;rw[List.append_nil];exact e
 .refine wp_append_own w s x 23 m B 9 r _ 1 16 underlying23 k E C D rfl (by decide) v l.length (l.map Value.string) p e ⟨g,0,none⟩ l'.length f (l'.map Value.string) q (by simp) (fun j u hj=>?_) (ar1 l') (by unfold maxLen;omega) (by omega) z fun v' w' d h2 _=>h v' w' ?_ h2
  .rw[List.getElem?_map]at hj
   obtain⟨y,H,rfl⟩:=Option.map_eq_some_iff.1 hj;have:=i.cell j y H
   cases j with
   | zero=>simpa [Addr.add] using this
   | succ j=>simpa [Addr.add] using this
  .unfold ah
   rw[List.length_append,List.map_append];exact d
theorem G6 {w:World} {d:Array Oper} {rest:List Oper} {o:Oper} {a:Act} {Q:Exit->Act->World->Prop}(i:o.guard=none) (s x:Operand)
  (m:o.op=.call { callee:=.builtin .append,args:=#[s,x],argTypes:=#[23,23] }) (B e:Nat) (v c:Value) (l b:List ByteArray) (n:a.eval s=v) (p:a.eval x=c) (j:ah w B v l) (k:ah w e c b)
  (f:l.length+b.length<=2097152) (g:B<=w.heap.size) (h:∀ v' w',ah w' B v' (l++b)->w.grownBy w' v.ownBlock->wpList prog d Q rest (a.put o.dst v') w'):wpList prog d Q (o::rest) a w :=
 wpList_plain i fun _ hK=>Lc s x m B e v c l b n p j k f g fun v' w' h1 h2=>hK _ _ (h v' w' h1 h2)
theorem ac8 (w:World) (n B:Nat) (hn:n=w.heap.size) (a:B<=w.heap.size):ah (w.alloc (.cells #[] 9)) B (.slice (some ⟨n,0,none⟩) 0 0) []:=by
 subst hn;exact⟨rfl,.inr ⟨w.heap.size,0,#[],rfl,a,heap_alloc_new _ _,bR,Nat.zero_le _,rfl,rfl⟩⟩
theorem ac9 (w:World) (n B:Nat) (x:ByteArray) (hn:n=w.heap.size) (a:B<=w.heap.size):ah (w.alloc (.cells #[.string x] 9)) B (.slice (some ⟨n,0,none⟩) 1 1) [x]:=by
 subst hn;exact⟨rfl,.inr ⟨w.heap.size,1,_,rfl,a,heap_alloc_new _ _,bR,by unfold maxLen;omega,rfl,rfl⟩⟩
def s4D (u:World) (p:Nat) (a b c d:Value):World:=(((u.setCell ⟨p,0,none⟩ a).setCell ⟨p,1,none⟩ b).setCell ⟨p,2,none⟩ c).setCell ⟨p,3,none⟩ d
theorem ku (u:World) (p:Nat) (a b c d:Value):u.grownBy (s4D u p a b c d) (some p):=(((d8 u p 0 a).trans (d8 _ p 1 b)).trans (d8 _ p 2 c)).trans (d8 _ p 3 d)
theorem je {w u:World} {p:Nat}(h:Below w.heap.size w u) (e:w.heap.size<=p) (a b c d:Value):Below w.heap.size w (s4D u p a b c d) :=
 Below.grown h (ku u p a b c d) h.size (fun j hj=>by have:=Option.some.inj hj;omega)
theorem Fo {u:World} {p:Nat} {r:ByteArray} {v:Value} {log:ByteArray} {syn:Int}(h:an u p r v log syn) (b:ByteArray) (v':Value) (a:ByteArray) (syn':Int):an (s4D u p (.string b) v' (.string a) (.int .i64 syn')) p b v' a syn':=by
 have c:=heap_setCell_same u p 0 _ _ (.string b) h;have d:=heap_setCell_same _ p 1 _ _ v' c;have e:=heap_setCell_same _ p 2 _ _ (.string a) d;have f:=heap_setCell_same _ p 3 _ _ (.int .i64 syn') e;show _=_
 unfold s4D;rw[f];simp
theorem ah.box {u u':World} {B p:Nat} {a:Value} {ss:List ByteArray} {cs:Array Value} {t:TypeId}(h:ah u B a ss) (b:u.heap[p]? = some (.cells cs t (0,0))) (ht:9≠t) (g:u.grownBy u' (some p)):ah u' B a ss :=
 World.ownsRow.kept h g (ic h b ht)
theorem Rws.box {u u':World} {B p:Nat} {vr:Value} {l:List Rw} {cs:Array Value} {t:TypeId}(h:Rws u B vr l) (a:u.heap[p]? = some (.cells cs t (0,0))) (ht:37≠t) (g:u.grownBy u' (some p)):Rws u' B vr l :=
 World.ownsRow.kept h g (ic h a ht)
theorem an.set {u:World} {b p k:Nat} {r:ByteArray} {v:Value} {log:ByteArray} {syn:Int}(h:an u b r v log syn) (a:b≠p) (x:Value):an (u.setCell ⟨p,k,none⟩ x) b r v log syn:=(heap_setCell_other u ⟨p,k,none⟩ b x a).trans h
theorem Fi {u u':World} {p B e size n:Nat} {v:Value} {xs:List Value} {cs:Array Value} {t:TypeId}(h:u.heap[p]? = some (.cells cs t (0,0))) (b:u.ownsRow B e size v n xs) (ht:e≠t) (g:u.grownBy u' v.ownBlock):u'.heap[p]? = some (.cells cs t (0,0)):=by
 refine (g.block p (Array.getElem?_eq_some_iff.1 h).1 (fun c=>?_)).trans h;rcases ic b h ht with a|a
 .rw[a]at c;cases c
 .exact a c.symm
theorem sg {w:World} {B:Nat} {b:Value} {d:Ds7}(a:Dk7 w B b d) :
  Calls prog 32 #[.agg #[.string d.r,b,.string d.log,.int .i64 d.syn]] w fun e w'=>∃ ve vr,e=.returned (.tuple #[.agg #[ve,.bool (ab d.r).sh,.int .i64 (ab d.r).lv],vr,.bool (fb d).isSome])/\ac w' w.heap.size ve (ab d.r).es/\Rws w' w.heap.size vr ((fb d).getD [])/\Below w.heap.size w w' :=
 Xr d.r d.log d.syn a.ok.rules (Nat.le_trans a.ok.log (by decide)) a.pages a.ok.page a.ok.pages a.ok.side
theorem Bk (w:World) (k a b:Int):Calls prog 34 #[.int .i64 k,.int .i64 a,.int .i64 b] w fun e w'=>e=.returned (.bool (decide (a<=k/\k<=b)))/\w'=w:=by
 by_cases d:a<=k
 .by_cases f:k<=b
  .rw[decide_eq_true ⟨d,f⟩]
   go_enter func34,ntmps34;go_wp2;go_ret;exact⟨rfl,rfl⟩
  .rw[decide_eq_false (fun c=>f c.2)]
   have g:decide (k<=b)=false:=decide_eq_false f;go_enter func34,ntmps34;go_wp2;go_ret;exact⟨by first|rfl|(rw[<- g];rfl),rfl⟩
 .rw[decide_eq_false (fun c=>d c.1)]
  have g:decide (a<=k)=false:=decide_eq_false d;go_enter func34,ntmps34;go_wp2;go_ret;exact⟨by first|rfl|(rw[<- g];rfl),rfl⟩
theorem wk {w:World} {B:Nat} {D:Value} {d:Ds7}(n:Dk7 w B D d) :
  Calls prog 33 #[.agg #[.string d.r,D,.string d.log,.int .i64 d.syn]] w fun e w'=>e=.returned (.bool (ch d).isSome)/\Below w.heap.size w w':=by
 obtain⟨c,f,F⟩:=n.form;subst F;have q:Below w.heap.size w (w.alloc (.cells #[.string d.r,.slice c d.ss.length f,.string d.log,.int .i64 d.syn] 25)):=bY _;have i:=sg (n.below q);have E:Hid (an (w.alloc (.cells #[.string d.r,.slice c d.ss.length f,.string d.log,.int .i64 d.syn] 25)) w.heap.size d.r (.slice c d.ss.length f) d.log d.syn):=an.new w _ _ _ _;have p:=hZ q;have K:=n.ok.log
 cases ho:fb d with
 | none =>
  have s:Hid ((ch d).isSome=false):=by show _=_;unfold ch;rw[ho];split <;> rfl
  rw[ho]at i;rw[s.out];have k:Calls prog 32 #[.agg #[.string d.r,.slice c d.ss.length f,.string d.log,.int .i64 d.syn]] (w.alloc (.cells #[.string d.r,.slice c d.ss.length f,.string d.log,.int .i64 d.syn] 25)) fun e w'=>∃ g h,e=.returned (.tuple #[.agg #[g,.bool (ab d.r).sh,.int .i64 (ab d.r).lv],h,.bool false])/\ac w' _ g (ab d.r).es/\Rws w' _ h []/\Below _ _ w':=i
  clear n q i ho;go_enter func33,ntmps33;go_wp2_with fail;refine k.mono ?_;rintro e t ⟨g,h,rfl,m,y,j⟩;obtain⟨H,I,x⟩:=ef m;subst x;have a:=p.out.trans (j.mono p.out.size);have v:Hid (∀ o,Below w.heap.size w (t.alloc o)):=fun o=>a.alloc a.size o
  clear k m y j a;go_wp2;go_ret;exact⟨rfl,v.out _⟩
 | some l =>
  rw[ho]at i;have k:Calls prog 32 #[.agg #[.string d.r,.slice c d.ss.length f,.string d.log,.int .i64 d.syn]] (w.alloc (.cells #[.string d.r,.slice c d.ss.length f,.string d.log,.int .i64 d.syn] 25)) fun e w'=>∃ g h,e=.returned (.tuple #[.agg #[g,.bool (ab d.r).sh,.int .i64 (ab d.r).lv],h,.bool true])/\ac w' _ g (ab d.r).es/\Rws w' _ h l/\Below _ _ w':=i
  obtain⟨b,z⟩:∃ b,b=decide (0<=d.syn/\d.syn<=(d.log.size:Int)):=⟨_,rfl⟩
  have s:Hid ((ch d).isSome=b):=by
   show _=_
   rw[z];unfold ch lq;by_cases C:0<=d.syn/\d.syn<=(d.log.size:Int)
   .rw[decide_eq_true C,if_pos rfl,ho];rfl
   .rw[decide_eq_false C,if_neg (by simp)];rfl
  have A:Hid (∀ u,Calls prog 34 #[.int .i64 d.syn,.int .i64 0,.int .i64 (d.log.size:Int)] u fun e w'=>e=.returned (.bool b)/\w'=u):=fun u=>by rw[z];exact Bk u d.syn 0 (d.log.size:Int)
  rw[s.out];clear n q i ho z s;go_enter func33,ntmps33;go_wp2_with fail;refine k.mono ?_;rintro e t ⟨g,h,rfl,m,y,j⟩;obtain⟨H,I,x⟩:=ef m;subst x;have a:=p.out.trans (j.mono p.out.size);have v:Hid (∀ o,Below w.heap.size w (t.alloc o)):=fun o=>a.alloc a.size o
  obtain⟨J,L,M,N,O,P⟩:=(E.out.below j).facts;have G:=fun o=>A.out (t.alloc o)
  clear k m y j a A;go_wp2_with fail;refine (G _).mono ?_;rintro e Q ⟨rfl,rfl⟩;go_wp2;go_ret;exact⟨rfl,v.out _⟩
theorem Xt {w:World} {B:Nat} {p:Value} {d:Ds7}(n:Dk7 w B p d) :
  Calls prog 11 #[.agg #[.string d.r,p,.string d.log,.int .i64 d.syn]] w fun e w'=>∃ v,e=.returned (.tuple #[v,.bool (fb d).isSome])/\Rws w' w.heap.size v ((fb d).getD [])/\Below w.heap.size w w':=by
 obtain⟨u,x,t⟩:=n.form;subst t;have k:Below w.heap.size w (w.alloc (.cells #[.string d.r,.slice u d.ss.length x,.string d.log,.int .i64 d.syn] 25)):=bY _;have g:=sg (n.below k);have b:=hZ k;generalize fb d=o at *;clear n k
 cases o with
 | none =>
  go_enter func11,ntmps11;go_wp2_with fail;refine g.mono ?_;rintro e i ⟨C,q,rfl,f,h,c⟩;obtain⟨z,A,m⟩:=ef f;subst m;have a:=b.out.trans (c.mono b.out.size);have j:Hid (∀ o,Below w.heap.size w (i.alloc o)):=fun o=>a.alloc a.size o
  have y:((none:Option (List Rw)).isSome)=false:=rfl;clear g f h c a;go_wp2;go_ret2;exact⟨_,rfl,World.ownsRow_nil _ _ _ _,j.out _⟩
 | some l =>
  go_enter func11,ntmps11;go_wp2_with fail;refine g.mono ?_;rintro e i ⟨C,q,rfl,f,h,c⟩;obtain⟨z,A,m⟩:=ef f;subst m;have a:=b.out.trans (c.mono b.out.size);have j:Hid (∀ o,Below w.heap.size w (i.alloc o)):=fun o=>a.alloc a.size o
  have s:Hid (∀ o,Rws (i.alloc o) w.heap.size q l):=fun o=>(ff h b.out.size).below (bY o)
  have y:((some l:Option (List Rw)).isSome)=true:=rfl;clear g f h c a;go_wp2;go_ret2;exact⟨_,rfl,s.out _,j.out _⟩
def Ek (r:ByteArray):ByteArray:=if (ab r).code=0 then r else ⟨#[]⟩
theorem am5 (w:World) (r:ByteArray) (I:r.size<=1048576) :
  Calls prog 65 #[.string r] w fun e w'=>∃ b,e=.returned (.tuple #[.agg #[.string (Ek r),.slice none 0 0,.string ⟨#[]⟩,.int .i64 0],.bool b])/\Below w.heap.size w w':=by
 have q:Below w.heap.size w (w.alloc (.cells #[.string ⟨#[]⟩,.slice none 0 0,.string ⟨#[]⟩,.int .i64 0] 25)):=bY _;have x:Hid (an (w.alloc (.cells #[.string ⟨#[]⟩,.slice none 0 0,.string ⟨#[]⟩,.int .i64 0] 25)) w.heap.size ⟨#[]⟩ (.slice none 0 0) ⟨#[]⟩ 0):=an.new w _ _ _ _;obtain⟨R,j⟩:∃ R,R=ab r:=⟨_,rfl⟩
 obtain⟨n,g⟩:∃ c,c=R.code:=⟨_,rfl⟩
 have l:Calls prog 23 #[.string r] (w.alloc (.cells #[.string ⟨#[]⟩,.slice none 0 0,.string ⟨#[]⟩,.int .i64 0] 25)) fun e w'=>∃ vE,e=.returned (.tuple #[.agg #[vE,.bool R.sh,.int .i64 R.lv],.int .i64 n])/\ac w' (w.alloc (.cells #[.string ⟨#[]⟩,.slice none 0 0,.string ⟨#[]⟩,.int .i64 0] 25)).heap.size vE R.es/\Below (w.alloc (.cells #[.string ⟨#[]⟩,.slice none 0 0,.string ⟨#[]⟩,.int .i64 0] 25)).heap.size (w.alloc (.cells #[.string ⟨#[]⟩,.slice none 0 0,.string ⟨#[]⟩,.int .i64 0] 25)) w':=by rw[g,j];exact Qe r _ (by omega)
 have k:Hid (Below w.heap.size w _):=q;by_cases h:n=0
 .have t:Hid (Ek r=r):=by show _=_;unfold Ek;rw[if_pos (by rw[<- j,<- g];exact h)]
  rw[t.out];clear g j q;subst h;go_enter func65,ntmps65;go_wp2_with fail;refine l.mono ?_;rintro e u ⟨G,rfl,i,d⟩;obtain⟨E,F,s⟩:=ef i;subst s;have f:=k.out.trans (d.mono k.out.size);obtain⟨y,z,A,B,C,D⟩:=(x.out.below d).facts;have a:=je (p:=w.heap.size) f bR (.string r) (.slice none 0 0) (.string ⟨#[]⟩) (.int .i64 0);have m:Hid (∀ o,Below w.heap.size w ((s4D u w.heap.size (.string r) (.slice none 0 0) (.string ⟨#[]⟩) (.int .i64 0)).alloc o)):=fun o=>a.alloc a.size o
  clear l i d f a;go_wp2;refine bodyPost_ret (v:=.tuple #[.agg #[.string r,.slice none 0 0,.string ⟨#[]⟩,.int .i64 0],.bool true]) ?_ rfl ⟨true,rfl,m.out _⟩;rw[results_cell_tmp rfl];go_simp
 .have t:Hid (Ek r=⟨#[]⟩):=by show _=_;unfold Ek;rw[if_neg (by rw[<- j,<- g];exact h)]
  rw[t.out];have H:(n != 0)=true:=by simpa using h
  clear g j q h;go_enter func65,ntmps65;go_wp2_with fail;refine l.mono ?_;rintro e u ⟨G,rfl,i,d⟩;obtain⟨E,F,s⟩:=ef i;subst s;have f:=k.out.trans (d.mono k.out.size);obtain⟨y,z,A,B,C,D⟩:=(x.out.below d).facts;have a:=je (p:=w.heap.size) f bR (.string ⟨#[]⟩) (.slice none 0 0) (.string ⟨#[]⟩) (.int .i64 0);have m:Hid (∀ o,Below w.heap.size w ((s4D u w.heap.size (.string ⟨#[]⟩) (.slice none 0 0) (.string ⟨#[]⟩) (.int .i64 0)).alloc o)):=fun o=>a.alloc a.size o
  clear l i d f a;go_wp2;refine bodyPost_ret (v:=.tuple #[.agg #[.string ⟨#[]⟩,.slice none 0 0,.string ⟨#[]⟩,.int .i64 0],.bool false]) ?_ rfl ⟨false,rfl,m.out _⟩;rw[results_cell_tmp rfl];go_simp
theorem Cw {w:World} {B:Nat} {I:Value} {d:Ds7}(s:Dk7 w B I d) :
  Calls prog 35 #[.agg #[.string d.r,I,.string d.log,.int .i64 d.syn]] w fun e w'=>∃ vp,e=.returned (.agg #[.string d.r,vp,.string d.log,.int .i64 d.syn])/\ah w' w.heap.size vp d.ss/\Below w.heap.size w w':=by
 obtain⟨c,f,O⟩:=s.form;subst O;obtain⟨W0,g⟩:∃ W0,W0=(w.alloc (.cells #[.string d.r,.slice c d.ss.length f,.string d.log,.int .i64 d.syn] 25)).alloc (.cells #[.string ⟨#[]⟩,.slice none 0 0,.string ⟨#[]⟩,.int .i64 0] 25):=⟨_,rfl⟩
 have i:Below w.heap.size w W0:=by rw[g];exact (bY _).alloc (by simp) _
 have M:W0.heap.size=w.heap.size+2:=by rw[g];simp
 have u:an W0 w.heap.size d.r (.slice c d.ss.length f) d.log d.syn:=by
  show _=_
  rw[g,Below.heap_alloc _ _ _ (by simp)];exact heap_alloc_new w _
 have C:an W0 (w.heap.size+1) ⟨#[]⟩ (.slice none 0 0) ⟨#[]⟩ 0:=by
  have h:=an.new (w.alloc (.cells #[.string d.r,.slice c d.ss.length f,.string d.log,.int .i64 d.syn] 25)) ⟨#[]⟩ (.slice none 0 0) ⟨#[]⟩ 0;rw[World.size_alloc]at h;rw[g];exact h
 have l:=(Below.refl W0.heap.size W0).alloc bR (.cells #[] 9);have o:Hid (ah (W0.alloc (.cells #[] 9)) w.heap.size (.slice (some ⟨w.heap.size+2,0,none⟩) 0 0) []):=ac8 W0 _ w.heap.size M.symm i.size;have A:Hid (ah (W0.alloc (.cells #[] 9)) B (.slice c d.ss.length f) d.ss):=(s.pages.below i).below l;have n:=hZ (i.trans (l.mono i.size));have z:=hZ (u.below l);have y:=hZ (C.below l);have X:=s.ok.pages;have H:Hid (W0=(w.alloc (.cells #[.string d.r,.slice c d.ss.length f,.string d.log,.int .i64 d.syn] 25)).alloc (.cells #[.string ⟨#[]⟩,.slice none 0 0,.string ⟨#[]⟩,.int .i64 0] 25)):=g;obtain⟨L,P,Q,R,S,T⟩:=u.facts
 clear s i u C l g;go_enter func35,ntmps35;go_upto_region 1 with fail
 rw[<- H.out];clear H;go_wp2_with (at_builtin;refine G6 rfl _ _ rfl w.heap.size B (.slice (some ⟨w.heap.size+2,0,none⟩) 0 0) (.slice c d.ss.length f) [] d.ss rfl rfl o.out A.out (by simp;omega) n.out.size ?_)
 intro U w1 m q;replace m:ah w1 w.heap.size U d.ss:=m;obtain⟨a,b,N⟩:=eu m;subst N;have x:an w1 w.heap.size d.r (.slice c d.ss.length f) d.log d.syn:=Fi z.out o.out (by decide) q;have t:an w1 (w.heap.size+1) ⟨#[]⟩ (.slice none 0 0) ⟨#[]⟩ 0:=Fi y.out o.out (by decide) q;have E:Below w.heap.size w w1:=Below.grown n.out q n.out.size (fun j hj=>by have:w.heap.size+2=j:=Option.some.inj hj;omega);have F:Below w.heap.size w (w1.setCell ⟨w.heap.size,1,none⟩ (.slice a d.ss.length b)):=E.setCell (p:=⟨w.heap.size,1,none⟩) bR _;have D:=t.set (p:=w.heap.size) (k:=1) (by omega) (.slice a d.ss.length b);have G:ah (w1.setCell ⟨w.heap.size,1,none⟩ (.slice a d.ss.length b)) w.heap.size (.slice a d.ss.length b) d.ss:=m.box x (by decide) (d8 w1 w.heap.size 1 _)
 have K:Hid (ah _ _ _ _):=G.box D (by decide) (ku _ (w.heap.size+1) (.string d.r) (.slice a d.ss.length b) (.string d.log) (.int .i64 d.syn));have J:Hid (Below _ _ _):=je (p:=w.heap.size+1) F (by omega) (.string d.r) (.slice a d.ss.length b) (.string d.log) (.int .i64 d.syn);obtain⟨L,P,Q,R,S,T⟩:=x.facts;obtain⟨W,Y,V,Z,a3,af⟩:=t.facts;clear m q x t E F D G z y o A n;go_wp2;refine bodyPost_ret (v:=.agg #[.string d.r,.slice a d.ss.length b,.string d.log,.int .i64 d.syn]) ?_ rfl ⟨.slice a d.ss.length b,rfl,K.out,J.out⟩;rw[av rfl];go_simp
theorem U4 (w:World) (n B:Nat) (xs:List Int) (hn:n=w.heap.size) (a:B<=w.heap.size) (b:xs.length<=100):Bys (w.alloc (.cells (xs.map (Value.int .u8)).toArray 5)) B (.slice (some ⟨n,0,none⟩) xs.length xs.length) xs:=by
 subst hn;exact⟨by simp,.inr ⟨w.heap.size,xs.length,_,rfl,a,heap_alloc_new _ _,bR,by unfold maxLen;omega,by simp,by simp[List.take_of_length_le]⟩⟩
theorem Vh (w:World) (o:Dn) (g:o.text.size<=60) (f:o.val.size<=60) :
  Calls prog 83 #[.agg #[.int .i64 (kn7 o),.string o.text,.string o.val]] w fun e w'=>e=.returned (.string (js o))/\Below w.heap.size w w':=by
 obtain⟨p,x,v⟩:=o;have j:x.size<=60:=g;have i:v.size<=60:=f;have k:IntKind.u8.wrap (x.size:Int)=(x.size:Int):=by rw[IntKind.wrap_u8];omega
 have l:IntKind.u8.wrap (v.size:Int)=(v.size:Int):=by rw[IntKind.wrap_u8];omega
 have d:Hid (∀ o o2:Obj,Below w.heap.size w ((w.alloc o).alloc o2)):=fun o o2=>(bY o).alloc (by simp) o2
 clear g f
 cases p
 .show Calls prog 83 #[.agg #[.int .i64 2,.string x,.string v]] w fun e w'=>_
  have b:=yp (U4 (w.alloc (.cells #[.int .i64 2,.string x,.string v] 27)) (w.heap.size+1) 0 [(x.size:Int)] (by simp) (Nat.zero_le _) (by simp));obtain⟨lb,a⟩:∃ lb,jt [(x.size:Int)]=lb:=⟨_,rfl⟩
  have h:lb.size=1:=by rw[<- a];rfl
  have c:Hid (js ⟨false,x,v⟩=⟨#[100]⟩++lb++x++⟨#[46]⟩):=by show _=_;rw[<- a];rfl
  rw[a]at b;simp only[List.map_cons,List.map_nil,List.length_cons,List.length_nil]at b;rw[c.out];clear a;go_enter func83,ntmps83;go_wp2;go_ret;exact⟨rfl,d.out _ _⟩
 .show Calls prog 83 #[.agg #[.int .i64 1,.string x,.string v]] w fun e w'=>_
  have b:=yp (U4 (w.alloc (.cells #[.int .i64 1,.string x,.string v] 27)) (w.heap.size+1) 0 [(x.size:Int),(v.size:Int)] (by simp) (Nat.zero_le _) (by simp));obtain⟨lb,a⟩:∃ lb,jt [(x.size:Int),(v.size:Int)]=lb:=⟨_,rfl⟩
  have h:lb.size=2:=by rw[<- a];rfl
  have c:Hid (js ⟨true,x,v⟩=⟨#[112]⟩++lb++x++v++⟨#[46]⟩):=by show _=_;rw[<- a];rfl
  rw[a]at b;simp only[List.map_cons,List.map_nil,List.length_cons,List.length_nil]at b;rw[c.out];clear a;go_enter func83,ntmps83;go_wp2;go_ret;exact⟨rfl,d.out _ _⟩
theorem Yi {s t:ByteArray} {o:Dn} {n:Nat}(h:bm (s++t)=some (o,n)) (hn:n<=s.size):bm s=some (o,n):=by
 have e:(s++t).size=s.size+t.size:=ByteArray.size_append;have d:=n7 h;unfold bm at h;split at h
 .cases h
 .rename_i h0
  rw[jj (i:=0) (by omega)]at h;unfold bm;rw[if_neg (by omega)];split at h
  .rename_i h1
   rw[if_pos h1];split at h
   .cases h
   .split at h
    .cases h
    .rename_i h3
     split at h
     .rename_i h4
      injection h with h;injection h with b a;have c:3<s.size:=by omega
      rw[jj (i:=1) (by omega),jj (i:=2) (by omega)]at a;rw[if_neg (by omega),if_neg (by omega)];rw[jj (i:=1) (by omega),jj (i:=2) (by omega),jj (by omega)]at h4;rw[if_pos h4];rw[jj (i:=1) (by omega),jj (i:=2) (by omega),uf (by omega),uf (by omega)]at b;rw[b,a]
     .cases h
  .rename_i h1
   rw[if_neg h1];split at h
   .rename_i h2
    rw[if_pos h2];split at h
    .cases h
    .split at h
     .cases h
     .split at h
      .rename_i h4
       injection h with h;injection h with b a;have c:2<s.size:=by omega
       rw[jj (i:=1) (by omega)]at a;rw[if_neg (by omega),if_neg (by omega)];rw[jj (i:=1) (by omega),jj (by omega)]at h4;rw[if_pos h4];rw[jj (i:=1) (by omega),uf (by omega)]at b;rw[b,a]
      .cases h
   .cases h
theorem Ch (s:ByteArray):s.extract 0 s.size=s:=by simp
theorem Dy (s:ByteArray){n:Nat}(h:n<=s.size):s.extract 0 n++s.extract n s.size=s:=by
 apply ByteArray.ext
 apply Array.toList_inj.1
 rw[ByteArray.data_append,Array.toList_append,kc,kc];have a:s.data.toList.length=s.size:=by rw[Array.length_toList];rfl
 rw[List.drop_zero,Nat.sub_zero,List.take_of_length_le (l:=s.data.toList.drop n) (by rw[List.length_drop];omega)];exact List.take_append_drop n _
theorem rz {s:ByteArray} {n:Nat}(h:n<=s.size):(s.extract 0 n).size=n:=by rw[ByteArray.size_extract];omega
theorem Om (s:ByteArray){a b:Nat}(h:b<=a) (_:a<=s.size):(s.extract 0 a).extract 0 b=s.extract 0 b:=by
 apply ByteArray.ext
 apply Array.toList_inj.1
 rw[kc,kc,kc];simp only[List.drop_zero,Nat.sub_zero];rw[List.take_take];congr 1
 omega
theorem rk (s:ByteArray):cm s<=s.size:=by
 have H:∀ (f:Nat) (s:ByteArray),ju f s<=s.size:=by
  intro f;induction f with
  | zero=>intro s;exact Nat.zero_le _
  | succ f ih =>
   intro s;rw[ju]
   cases hr:bm s with
   | none=>exact Nat.zero_le _
   | some p =>
    obtain⟨o,n⟩:=p;have a:=n7 hr;have b:=ih (s.extract n s.size);have c:=gg s n;show n+ju f (s.extract n s.size)<=_
    omega
 exact H _ _
theorem Mq:∀ (f:Nat) (s:ByteArray),s.size<=f->∀ os,im s=some os->cm s=s.size:=by
 intro f;induction f with
 | zero =>
  intro s b os _;have:=rk s;omega
 | succ f ih =>
  intro s b os h;by_cases a:s.size=0
  .have:=rk s
   omega
  .cases hr:bm s with
   | none=>rw[Ei a hr]at h;cases h
   | some p =>
    obtain⟨o,n⟩:=p;have c:=n7 hr;have d:=gg s n;rw[zz hr]at h
    cases hl:im (s.extract n s.size) with
    | none=>rw[hl]at h;cases h
    | some os' =>
     have:=ih (s.extract n s.size) (by omega) os' hl;rw[y7 hr,this];omega
theorem ap9 {R:RA} {l L:List Rw} {s:ByteArray}(h:jd R l s=some L):∃ os,im s=some os:=by
 unfold jd at h
 cases hl:im s with
 | none=>rw[hl]at h;cases h
 | some os=>exact⟨os,rfl⟩
theorem ad8 {R:RA} {l L:List Rw} {s:ByteArray}(h:jd R l s=some L):cm s=s.size:=by
 obtain⟨b,a⟩:=ap9 h;exact Mq _ _ bR b a
theorem Mn {R:RA} {l L:List Rw} {s t:ByteArray} {o:Dn} {n:Nat}(h:jd R l (s++t)=some L) (b:bm s=some (o,n)) :
  apC R l o=0/\jd R (apR R l o) (s.extract n s.size++t)=some L:=by
 have c:=n7 b;have a:apC R l o=0:=by
  by_cases a:apC R l o=0
  .exact a
  .rw[Id (Qf b) a]at h
   cases h
 rw[Ew (Qf b) a,a35 c.2]at h;exact⟨a,h⟩
theorem ab5 {R:RA} {t:ByteArray}:∀ (f:Nat) (s:ByteArray) (l L:List Rw),s.size<=f->jd R l (s++t)=some L->∃ L',jd R l (s.extract 0 (cm s))=some L':=by
 intro f;induction f with
 | zero =>
  intro s l L i _;have:=rk s;exact⟨l,Ie (by rw[ByteArray.size_extract];omega)⟩
 | succ f ih =>
  intro s l L i h
  cases hr:bm s with
  | none=>exact⟨l,Ie (by rw[y8 hr,ByteArray.size_extract];omega)⟩
  | some p =>
   obtain⟨o,n⟩:=p;have q:=n7 hr;have r:=gg s n;obtain⟨g,d⟩:=Mn h hr;obtain⟨L',a⟩:=ih (s.extract n s.size) _ _ (by omega) d;have k:=rk (s.extract n s.size);refine⟨L',?_⟩;rw[y7 hr];obtain⟨m,j⟩:∃ m,m=cm (s.extract n s.size):=⟨_,rfl⟩
   rw[<- j]at a k ⊢;have c:(s.extract 0 (n+m)).size=n+m:=rz (by omega);have b:bm (s.extract 0 (n+m))=some (o,n):=by
    refine Yi (t:=s.extract (n+m) s.size) ?_ (by omega);rw[Dy s (by omega)];exact hr
   rw[Ew b g];have e:(s.extract 0 (n+m)).extract n (s.extract 0 (n+m)).size=(s.extract n s.size).extract 0 m:=by
    apply ByteArray.ext
    apply Array.toList_inj.1
    rw[c,kc,kc,kc,kc];simp only[List.drop_zero,Nat.sub_zero];rw[List.take_take,List.drop_take,List.take_take];congr 1
    omega
   rw[e];exact a
def ow (d:Ds7) (keep:Int):Nat:=d.syn.toNat+min keep.toNat (d.log.size-d.syn.toNat)
def qh (d:Ds7) (keep:Int):Nat:=cm (d.log.extract 0 (ow d keep))
def Du (d:Ds7) (q:Nat):Ds7:=⟨d.r,d.ss,d.log.extract 0 q,(q:Int)⟩
def Am (d:Ds7) (keep:Int):Ds7:=Du d (qh d keep)
def kb (d:Ds7) (keep:Int):Option Ds7 :=
 match ch d with
 | none=>none
 | some _=>if 0<=keep then some (Am d keep) else none
theorem Fp {d:Ds7} {keep:Int}(h:lq d=true):ow d keep<=d.log.size/\d.syn.toNat<=d.log.size:=by
 unfold lq at h;have h:=of_decide_eq_true h;unfold ow;omega
theorem Uj {d:Ds7} {keep:Int}(h:lq d=true):qh d keep<=ow d keep/\qh d keep<=d.log.size:=by
 have b:=(Fp (keep:=keep) h).1;have a:=rk (d.log.extract 0 (ow d keep));rw[rz b]at a;exact⟨a,Nat.le_trans a b⟩
theorem b50 {d:Ds7}(h:Ok7 d) (q:Nat):Ok7 (Du d q):=by
 have a:(d.log.extract 0 q).size<=1000000:=by
  have:=h.log;rw[ByteArray.size_extract];omega
 exact⟨h.rules,h.pages,h.page,h.side,a⟩
theorem b49 {d:Ds7}(h:Ok7 d) (keep:Int):Ok7 (Am d keep):=b50 h _
theorem ah0 {d:Ds7} {gs:List (List Rw)} {L:List Rw} {q:Nat}(e:bu d.ss=some gs) (h0:(ab d.r).code=0) (f:ig (ab d.r) gs.flatten=true) (h:d.log.size<=6000) (g:q<=d.log.size) (c:jd (ab d.r) gs.flatten (d.log.extract 0 q)=some L):ch (Du d q)=some L:=by
 have a:(d.log.extract 0 q).size=q:=rz g;have b:lq (Du d q)=true:=by
  unfold lq;refine decide_eq_true ⟨by show (0:Int)<=(q:Int);omega,?_⟩;show (q:Int)<=((d.log.extract 0 q).size:Int)
  rw[a];exact Int.le_refl _
 unfold ch;rw[if_pos b,an0 (d:=Du d q) e h0 f (by show (d.log.extract 0 q).size<=6000;rw[a];omega)];exact c
theorem Vo {d:Ds7} {l:List Rw} {keep:Int}(h:ch d=some l):∃ L,ch (Am d keep)=some L:=by
 obtain⟨f,o⟩:=kz h;obtain⟨e,k,i,m,n,p⟩:=uu o;have c:=(Fp (keep:=keep) f).1;have b:=Uj (keep:=keep) f;have g:jd (ab d.r) e.flatten (d.log.extract 0 (ow d keep)++d.log.extract (ow d keep) d.log.size)=some l:=by rw[Dy _ c];exact p
 obtain⟨L,j⟩:=ab5 _ _ _ _ bR g;have a:jd (ab d.r) e.flatten ((d.log.extract 0 (ow d keep)).extract 0 (qh d keep))=some L:=j;rw[Om _ b.1 c]at a;exact⟨L,ah0 k i m n b.2 a⟩
theorem J8 {d:Ds7} {l:List Rw}(h:ch d=some l):kb { d with syn:=(d.log.size:Int) } 0=some { d with syn:=(d.log.size:Int) }/\ch { d with syn:=(d.log.size:Int) }=some l:=by
 obtain⟨o,b⟩:=kz h;obtain⟨i,k,j,m,n,g⟩:=uu b;have f:lq { d with syn:=(d.log.size:Int) }=true:=decide_eq_true ⟨by show (0:Int)<=(d.log.size:Int);omega,Int.le_refl _⟩;have a:ch { d with syn:=(d.log.size:Int) }=some l:=by
  unfold ch;rw[if_pos f];exact b
 refine⟨?_,a⟩;have e:ow { d with syn:=(d.log.size:Int) } 0=d.log.size:=by
  unfold ow;show (d.log.size:Int).toNat+min (0:Int).toNat _=_
  rw[Int.toNat_natCast];simp
 have c:qh { d with syn:=(d.log.size:Int) } 0=d.log.size:=by
  unfold qh;rw[e];show cm (d.log.extract 0 d.log.size)=_
  rw[Ch];exact ad8 g
 unfold kb;rw[a];show (if (0:Int)<=0 then some (Am _ 0) else none)=_
 rw[if_pos (Int.le_refl _)];unfold Am Du;rw[c];show some (Ds7.mk d.r d.ss (d.log.extract 0 d.log.size) (d.log.size:Int))=_
 rw[Ch]
end Go.Proofs.YtjbmgghehdemdaaGreatDoor
