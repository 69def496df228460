/- IThat7 -/
import Derived.Test.YtjbmgghehdemdaaGreatDoorMR34
namespace Go.Proofs.YtjbmgghehdemdaaGreatDoor
set_option maxRecDepth 100000
set_option maxHeartbeats 16000000
open _root_.Go.Proofs.Tryz
open Go.RowKit
theorem Lh {w:World} {l:List Rw} {C:Option Addr} {cr:Nat}(c1 c2:Value) (p:Rw->Bool) (hl:l.length<=1000000) (d:dd w C l)
  (I:∀ (u:World) (x:Rw),Below w.heap.size w u->x ∈ l->Calls prog 51 #[.agg #[.string x.key,.string x.text,.string x.val],c1,c2] u fun e w'=>e=.returned (.bool (p x))/\Below u.heap.size u w') :
  Calls prog 50 #[.slice C l.length cr,.func (.func 51) #[] #[c1,c2]] w fun e w'=>∃ v,e=.returned v/\Rws w' w.heap.size v (l.filter p)/\Below w.heap.size w w':=by
 have X:Hid (∀ u,Below w.heap.size w u->dd u C l):=fun u hu=>d.below hu bR
 have W:Hid (∀ (u:World) (x:Rw),Below w.heap.size w u->x ∈ l->Calls prog 51 #[.agg #[.string x.key,.string x.text,.string x.val],c1,c2] u fun e w'=>e=.returned (.bool (p x))/\Below u.heap.size u w'):=I;clear d I;go_enter func50,ntmps50;go_wp2_with fail;go_loopw [5,10] (fun v i wr=>∃ k:Nat,k<=l.length/\i=.int .i64 (k:Int)/\Rws wr w.heap.size v ((l.take k).filter p)/\Below w.heap.size w wr) (fun _ i _=>l.length-(intOf i).toNat)
 case atStart=>exact⟨0,Nat.zero_le _,rfl,World.ownsRow_nil _ _ _ _,bX⟩
 case round =>
  obtain⟨k,hk,rfl,d,g⟩:=hrel;by_cases V:k<l.length
  .obtain⟨x,h⟩:∃ x,l[k]? = some x:=by exact⟨_,List.getElem?_eq_getElem V⟩
   have T:Hid (l[k]? = some x):=h;rcases X.out wr g with h0|⟨b,o,rfl,M⟩
   .rw[h0]at h;simp at h
   obtain⟨K,Y,Z⟩:=M k x h;have a3:=ag K;have a5:(k:Int)<(l.length:Int):=by omega
   have D:Below wr.heap.size wr (wr.alloc (.cells #[.string x.key,.string x.text,.string x.val] 37)):=bY _;have B:=g.trans (D.mono g.size);have J:=W.out _ x B (List.mem_of_getElem? h);have G:Hid (di (wr.alloc (.cells #[.string x.key,.string x.text,.string x.val] 37)) wr.heap.size x):=ky wr x;have n:Hid ((l.take (k+1)).filter p=(l.take k).filter p++[x].filter p):=by show _=_;rw[List.take_add_one,T.out,List.filter_append];rfl
   have U:((l.take k).filter p).length<=1000000:=by have:=List.length_filter_le p (l.take k);have:=List.length_take_le k l;omega
   obtain⟨c,R⟩:∃ c,Hid ((l.take k).filter p=c):=⟨_,rfl⟩
   have a:Rws wr w.heap.size u5 ((l.take k).filter p):=d;rw[R.out]at a n U;obtain⟨O,P,hv⟩:=bz a;subst hv;have r:Hid (Rws _ w.heap.size (.slice O c.length P) c):=a.below D;have m:Hid (Below w.heap.size w _):=B;clear M h g D B d a;go_wp2_with fail;refine J.mono ?_;rintro e f ⟨rfl,s⟩;have A:=G.out.below s;obtain⟨d0,d1,d2⟩:=A.cells;have a4:=A.lt;have F:=hZ (r.out.below s);have t:=hZ (m.out.trans (s.mono m.out.size));clear J s K Y Z A G r m
   cases hp:p x
   .have y:Hid ((l.take (k+1)).filter p=c):=by show _=_;rw[n.out];simp[hp]
    clear n;go_wp2;exact⟨⟨k+1,by omega,by go_num,by rw[y.out];exact F.out,t.out⟩,by simp[intOf];omega⟩
   .have y:Hid ((l.take (k+1)).filter p=c++[x]):=by show _=_;rw[n.out];simp[hp]
    have E:=(Below.refl f.heap.size f).alloc bR (.cells #[.string x.key,.string x.text,.string x.val] 37);have H:Hid (SlV (f.alloc (.cells #[.string x.key,.string x.text,.string x.val] 37)) (.slice (some ⟨f.heap.size,0,none⟩) 1 1) [x]):=(gg f _ f.heap.size x rfl bR).slV;have z:=hZ (F.out.below E);have q:=hZ (t.out.trans (E.mono t.out.size));clear n E;go_wp2_with (at_builtin;refine ef rfl _ _ rfl w.heap.size (.slice O c.length P) (.slice (some ⟨f.heap.size,0,none⟩) 1 1) c [x] rfl rfl z.out H.out (by simp;omega) q.out.size ?_)
    intro v8 w8 N L;have Q:Hid (Below w.heap.size w w8):=Below.grown q.out L q.out.size (fun j hj=>(World.ownsRow.lt z.out j hj).1);have S:=hZ N;clear N L z q H;go_wp2;exact⟨⟨k+1,by omega,by go_num,by rw[y.out];exact S.out,Q.out⟩,by simp[intOf];omega⟩
  .obtain rfl:k=l.length:=by omega
   have a:Rws wr w.heap.size u5 ((l.take l.length).filter p):=d;rw[List.take_length]at a;have r:=hZ a;have m:=hZ g;clear d a g;go_wp2;go_ret;exact⟨_,rfl,r.out,m.out⟩
theorem Lg {w:World} {l:List Rw} {C:Option Addr} {cr:Nat}(c1 c2:Value) (p:Rw->Bool) (hl:l.length<=1000000) (d:dd w C l)
  (I:∀ (u:World) (x:Rw),Below w.heap.size w u->x ∈ l->Calls prog 62 #[.agg #[.string x.key,.string x.text,.string x.val],c1,c2] u fun e w'=>e=.returned (.bool (p x))/\Below u.heap.size u w') :
  Calls prog 50 #[.slice C l.length cr,.func (.func 62) #[] #[c1,c2]] w fun e w'=>∃ v,e=.returned v/\Rws w' w.heap.size v (l.filter p)/\Below w.heap.size w w':=by
 have X:Hid (∀ u,Below w.heap.size w u->dd u C l):=fun u hu=>d.below hu bR
 have W:Hid (∀ (u:World) (x:Rw),Below w.heap.size w u->x ∈ l->Calls prog 62 #[.agg #[.string x.key,.string x.text,.string x.val],c1,c2] u fun e w'=>e=.returned (.bool (p x))/\Below u.heap.size u w'):=I;clear d I;go_enter func50,ntmps50;go_wp2_with fail;go_loopw [5,10] (fun v i wr=>∃ k:Nat,k<=l.length/\i=.int .i64 (k:Int)/\Rws wr w.heap.size v ((l.take k).filter p)/\Below w.heap.size w wr) (fun _ i _=>l.length-(intOf i).toNat)
 case atStart=>exact⟨0,Nat.zero_le _,rfl,World.ownsRow_nil _ _ _ _,bX⟩
 case round =>
  obtain⟨k,hk,rfl,d,g⟩:=hrel;by_cases V:k<l.length
  .obtain⟨x,h⟩:∃ x,l[k]? = some x:=by exact⟨_,List.getElem?_eq_getElem V⟩
   have T:Hid (l[k]? = some x):=h;rcases X.out wr g with h0|⟨b,o,rfl,M⟩
   .rw[h0]at h;simp at h
   obtain⟨K,Y,Z⟩:=M k x h;have a3:=ag K;have a5:(k:Int)<(l.length:Int):=by omega
   have D:Below wr.heap.size wr (wr.alloc (.cells #[.string x.key,.string x.text,.string x.val] 37)):=bY _;have B:=g.trans (D.mono g.size);have J:=W.out _ x B (List.mem_of_getElem? h);have G:Hid (di (wr.alloc (.cells #[.string x.key,.string x.text,.string x.val] 37)) wr.heap.size x):=ky wr x;have n:Hid ((l.take (k+1)).filter p=(l.take k).filter p++[x].filter p):=by show _=_;rw[List.take_add_one,T.out,List.filter_append];rfl
   have U:((l.take k).filter p).length<=1000000:=by have:=List.length_filter_le p (l.take k);have:=List.length_take_le k l;omega
   obtain⟨c,R⟩:∃ c,Hid ((l.take k).filter p=c):=⟨_,rfl⟩
   have a:Rws wr w.heap.size u5 ((l.take k).filter p):=d;rw[R.out]at a n U;obtain⟨O,P,hv⟩:=bz a;subst hv;have r:Hid (Rws _ w.heap.size (.slice O c.length P) c):=a.below D;have m:Hid (Below w.heap.size w _):=B;clear M h g D B d a;go_wp2_with fail;refine J.mono ?_;rintro e f ⟨rfl,s⟩;have A:=G.out.below s;obtain⟨d0,d1,d2⟩:=A.cells;have a4:=A.lt;have F:=hZ (r.out.below s);have t:=hZ (m.out.trans (s.mono m.out.size));clear J s K Y Z A G r m
   cases hp:p x
   .have y:Hid ((l.take (k+1)).filter p=c):=by show _=_;rw[n.out];simp[hp]
    clear n;go_wp2;exact⟨⟨k+1,by omega,by go_num,by rw[y.out];exact F.out,t.out⟩,by simp[intOf];omega⟩
   .have y:Hid ((l.take (k+1)).filter p=c++[x]):=by show _=_;rw[n.out];simp[hp]
    have E:=(Below.refl f.heap.size f).alloc bR (.cells #[.string x.key,.string x.text,.string x.val] 37);have H:Hid (SlV (f.alloc (.cells #[.string x.key,.string x.text,.string x.val] 37)) (.slice (some ⟨f.heap.size,0,none⟩) 1 1) [x]):=(gg f _ f.heap.size x rfl bR).slV;have z:=hZ (F.out.below E);have q:=hZ (t.out.trans (E.mono t.out.size));clear n E;go_wp2_with (at_builtin;refine ef rfl _ _ rfl w.heap.size (.slice O c.length P) (.slice (some ⟨f.heap.size,0,none⟩) 1 1) c [x] rfl rfl z.out H.out (by simp;omega) q.out.size ?_)
    intro v8 w8 N L;have Q:Hid (Below w.heap.size w w8):=Below.grown q.out L q.out.size (fun j hj=>(World.ownsRow.lt z.out j hj).1);have S:=hZ N;clear N L z q H;go_wp2;exact⟨⟨k+1,by omega,by go_num,by rw[y.out];exact S.out,Q.out⟩,by simp[intOf];omega⟩
  .obtain rfl:k=l.length:=by omega
   have a:Rws wr w.heap.size u5 ((l.take l.length).filter p):=d;rw[List.take_length]at a;have r:=hZ a;have m:=hZ g;clear d a g;go_wp2;go_ret;exact⟨_,rfl,r.out,m.out⟩
theorem Wd {w:World}(x:Rw) (f g:Nat) (a hi:ByteArray) (h1:w.cell? ⟨f,0,none⟩=some (.string a)) (h2:w.cell? ⟨g,0,none⟩=some (.string hi)) :
  Calls prog 51 #[.agg #[.string x.key,.string x.text,.string x.val],.pointer (some ⟨f,0,none⟩),.pointer (some ⟨g,0,none⟩)] w fun e w'=>e=.returned (.bool (inK a hi x))/\Below w.heap.size w w':=by
 have c:=(Below.refl w.heap.size w).alloc bR (.cells #[.string x.key,.string x.text,.string x.val] 37);have h:=(c.cell (p:=⟨f,0,none⟩) (ag h1)).trans h1;have i:=(c.cell (p:=⟨g,0,none⟩) (ag h2)).trans h2;have j:=ag h;have k:=ag i;have d:Hid (Below w.heap.size w _):=c;clear h1 h2 c
 cases hlo:ltK x.key a
 .cases hhi:ltK x.key hi
  .have b:Hid (inK a hi x=false):=by show _=_;unfold inK;rw[hlo,hhi];rfl
   unfold ltK at hlo hhi;rw[b.out];go_enter func51,ntmps51;go_wp2;go_ret;exact⟨rfl,d.out⟩
  .have b:Hid (inK a hi x=true):=by show _=_;unfold inK;rw[hlo,hhi];rfl
   unfold ltK at hlo hhi;rw[b.out];go_enter func51,ntmps51;go_wp2;go_ret;exact⟨rfl,d.out⟩
 .have b:Hid (inK a hi x=false):=by show _=_;unfold inK;rw[hlo];rfl
  unfold ltK at hlo;rw[b.out];go_enter func51,ntmps51;go_wp2;go_ret;exact⟨rfl,d.out⟩
theorem Ri {w:World} {q b:Nat} {s:Value} {R:RA} {r:ByteArray} {u:Value} {ss:List ByteArray} {log:ByteArray} {syn:Int} {vr:Value} {l:List Rw}(x:Rw) (a:Nat) (t:ByteArray) (o:x.text.size<=200) (ht:t.size<=200) (m:Ix7 w q b s R r u ss log syn vr l) (d:ay R.es R.lv=true) (j:dr w) (h2:w.cell? ⟨a,0,none⟩=some (.string t)) :
  Calls prog 62 #[.agg #[.string x.key,.string x.text,.string x.val],.pointer (some ⟨b,0,none⟩),.pointer (some ⟨a,0,none⟩)] w fun e w'=>e=.returned (.bool (ww R.es R.sh R.lv x.text t))/\Below w.heap.size w w':=by
 have c:=(Below.refl w.heap.size w).alloc bR (.cells #[.string x.key,.string x.text,.string x.val] 37);have n:=(c.cell (p:=⟨a,0,none⟩) (ag h2)).trans h2;have L:=ag n;have f:=m.below c;obtain⟨v,C,D,E,F,G,H,I,J,K⟩:=f.box.facts;have g:=Bo (sh:=R.sh) (lv:=R.lv) x.text (by omega) t (by omega) f.ents (nd d) (j.below c);rw[gd d o,gd d ht]at g;have i:Hid (di (w.alloc (.cells #[.string x.key,.string x.text,.string x.val] 37)) w.heap.size x):=ky w x;obtain⟨z,A,B⟩:=i.out.cells;have y:=i.out.lt;have k:Hid (Below w.heap.size w _):=c;generalize ww R.es R.sh R.lv x.text t=bg at *;clear h2 c m f d j;go_enter func62,ntmps62;go_wp2_with fail;refine g.mono ?_;rintro e M ⟨rfl,a⟩;have h:=hZ (k.out.trans (a.mono k.out.size));clear g a
 cases bg
 .go_wp2
  go_ret;exact⟨rfl,h.out⟩
 .go_wp2
  go_ret;exact⟨rfl,h.out⟩
def dw (d:Ds7) (lo hi:ByteArray):Option (List Rw):=match cm d with
 | none=>none
 | some l=>if lo.size<=60/\hi.size<=60 then some (l.filter (inK (bh (aa d.r) lo) (bh (aa d.r) hi))) else none
def te (d:Ds7) (t:ByteArray):Option (List Rw):=match cm d with
 | none=>none
 | some l=>if t.size<=60 then some (l.filter (fun x=>ww (aa d.r).es (aa d.r).sh (aa d.r).lv x.text t)) else none
theorem L9 (hO:Di){w:World} {B:Nat} {vd:Value} {d:Ds7} {ty:TypeId} {pv:Value} {pb pl pf pn:Addr}(y hi:ByteArray) (an:y.size<=1048576) (a6:hi.size<=1048576) (hD:Dk7 w B vd d) (hE:qt w ty pv pb pl pf pn) :
  Calls prog 21 #[.agg #[.string d.r,vd,.string d.log,.int .i64 d.syn],.string y,.string hi] w fun e w'=>∃ v,e=.returned (.tuple #[v,.bool (dw d y hi).isSome])/\Rws w' w.heap.size v ((dw d y hi).getD [])/\Below w.heap.size w w':=by
 obtain⟨C,D,au⟩:=hD.form;subst au;have a5:Below w.heap.size w (w.alloc (.cells #[.string d.r,.slice C d.ss.length D,.string d.log,.int .i64 d.syn] 25)):=bY _;have W:=Cr hO (hD.below a5) (hE.below a5);have J:=hZ a5;have a1:Hid (∀ u,Below w.heap.size w u->qt u ty pv pb pl pf pn):=fun u hu=>hE.below hu
 have a8:Hid (Ok7 d):=hD.ok;obtain⟨o,ho⟩:∃ o,o=cm d:=⟨_,rfl⟩
 rw[<- ho]at W;have a3:=hZ ho.symm;clear hD hE a5 ho
 cases o with
 | none =>
  have k:Hid (dw d y hi=none):=by show _=_;unfold dw;rw[a3.out]
  have U:Calls prog 29 #[.agg #[.string d.r,.slice C d.ss.length D,.string d.log,.int .i64 d.syn]] (w.alloc (.cells #[.string d.r,.slice C d.ss.length D,.string d.log,.int .i64 d.syn] 25)) fun e w'=>(∃ ev,e=.returned (.tuple #[zIx,ev])/\Ik pb ev)/\Below ((w.alloc (.cells #[.string d.r,.slice C d.ss.length D,.string d.log,.int .i64 d.syn] 25))).heap.size (w.alloc (.cells #[.string d.r,.slice C d.ss.length D,.string d.log,.int .i64 d.syn] 25)) w':=W
  clear W a3 a1 a8;go_enter func21,ntmps21;go_wp2_with fail;refine U.mono ?_;rintro e w1 ⟨⟨ev,rfl,al⟩,X⟩;have a9:Below w.heap.size w w1:=J.out.trans (X.mono J.out.size);have ah:Hid (∀ o,Below w.heap.size w (w1.alloc o)):=fun o=>a9.alloc a9.size o
  unfold zIx;clear U X a9 J;rcases al with rfl|⟨kk,rfl⟩;all_goals
   go_wp2;go_ret2;exact⟨_,by rw[k.out];rfl,by rw[k.out];exact World.ownsRow_nil _ _ _ _,ah.out _⟩
 | some l =>
  have T:Hid (cm d=some l):=a3.out;have U:Calls prog 29 #[.agg #[.string d.r,.slice C d.ss.length D,.string d.log,.int .i64 d.syn]] (w.alloc (.cells #[.string d.r,.slice C d.ss.length D,.string d.log,.int .i64 d.syn] 25)) fun e w'=>(∃ ve vp vr,e=.returned (.tuple #[ixV ve (aa d.r) d.r vp d.log d.syn vr,.nilIface])/\ac w' (w.alloc (.cells #[.string d.r,.slice C d.ss.length D,.string d.log,.int .i64 d.syn] 25)).heap.size ve (aa d.r).es/\ak w' (w.alloc (.cells #[.string d.r,.slice C d.ss.length D,.string d.log,.int .i64 d.syn] 25)).heap.size vp d.ss/\Rws w' (w.alloc (.cells #[.string d.r,.slice C d.ss.length D,.string d.log,.int .i64 d.syn] 25)).heap.size vr l)/\Below (w.alloc (.cells #[.string d.r,.slice C d.ss.length D,.string d.log,.int .i64 d.syn] 25)).heap.size (w.alloc (.cells #[.string d.r,.slice C d.ss.length D,.string d.log,.int .i64 d.syn] 25)) w':=W
  clear W;go_enter func21,ntmps21;go_wp2_with fail;refine U.mono ?_;rintro e w1 ⟨⟨ve,vp,vr,rfl,h1,h2,h3⟩,X⟩;obtain⟨O,P,aq⟩:=Ak h1;subst aq;obtain⟨ap,cp,av,_⟩:=js h2;subst av;obtain⟨ar,cr,aw⟩:=bz h3;subst aw;obtain⟨w2,a7⟩:∃ w2,w2=w1.alloc (.cells #[.slice O (aa d.r).es.length P,.bool (aa d.r).sh,.int .i64 (aa d.r).lv,.string d.r,.slice ap d.ss.length cp,.string d.log,.int .i64 d.syn,.slice ar l.length cr] 71):=⟨_,rfl⟩
  have N:Hid (w2=w1.alloc (.cells #[.slice O (aa d.r).es.length P,.bool (aa d.r).sh,.int .i64 (aa d.r).lv,.string d.r,.slice ap d.ss.length cp,.string d.log,.int .i64 d.syn,.slice ar l.length cr] 71)):=a7;have a0:Below w.heap.size w w1:=J.out.trans (X.mono J.out.size);have hI:Ix7 w2 w.heap.size w1.heap.size (.slice O (aa d.r).es.length P) (aa d.r) d.r (.slice ap d.ss.length cp) d.ss d.log d.syn (.slice ar l.length cr) l:=by rw[a7];exact Nn (ac.low h1 J.out.size) (kq h2 J.out.size) (cz h3 J.out.size) a0.size
  have ab:Below w1.heap.size w1 w2:=by rw[a7];exact bY _
  have S:Below w.heap.size w w2:=a0.trans (ab.mono a0.size);have A:=hZ hI;have z:=hZ S;obtain⟨V,Y,Z,i2,i3,i4,i5,i6,i7,i8⟩:=hI.box.facts;have ao:=nu (l8 T.out).2;have am:=(jz a8.out (l8 T.out).2).len;have m:Hid (∀ u,Below w2.heap.size w2 u->Ru7 u w.heap.size (.slice O (aa d.r).es.length P) (aa d.r)/\Ev7 u pb pl pf pn):=fun u hu=>⟨⟨hI.ents.below hu,ao,(a1.out u (S.trans (hu.mono S.size))).tabs⟩,(a1.out u (S.trans (hu.mono S.size))).errs⟩
  have n:=nw y an (m.out w2 bX).1 (m.out w2 bX).2;clear U h1 h2 h3 X ab a0 S hI a7 a1 a3 a8 J;unfold ixV;by_cases Q:y.size<=60
  .by_cases R:hi.size<=60
   .rw[if_pos Q]at n
    obtain⟨t,a2⟩:∃ f,Hid (bh (aa d.r) y=f):=⟨_,rfl⟩
    rw[a2.out]at n;obtain⟨G,a4⟩:∃ f,Hid (bh (aa d.r) hi=f):=⟨_,rfl⟩
    have E:Hid (∀ u,Below w2.heap.size w2 u->Calls prog 49 #[.agg #[.slice O (aa d.r).es.length P,.bool (aa d.r).sh,.int .i64 (aa d.r).lv],.string hi] u fun e w'=>e=.returned (.tuple #[.string G,.nilIface])/\Below u.heap.size u w'):=fun u hu=>by
     have q:=nw hi a6 (m.out u hu).1 (m.out u hu).2;rw[if_pos R,a4.out]at q;exact q
    clear m;go_wp2_with fail;rw[<- N.out];go_wp2_with fail;refine n.mono ?_;rintro e a ⟨rfl,g⟩;have H:Below a.heap.size a (a.alloc (.cells #[.string t] 9)):=bY _;have j:Below w2.heap.size w2 (a.alloc (.cells #[.string t] 9)):=g.trans (H.mono g.size);have F:=E.out _ j;obtain⟨V,Y,Z,i2,i3,i4,i5,i6,i7,i8⟩:=(A.out.below g).box.facts;have M:=hZ (A.out.below j);have i:=hZ (z.out.trans (j.mono z.out.size));have L:Hid ((a.alloc (.cells #[.string t] 9)).cell? ⟨a.heap.size,0,none⟩=some (.string t)):=cell_of_row _ _ 0 _ _ _ (heap_alloc_new a _)
    clear n g H A z E N;go_wp2_with fail;refine F.mono ?_;rintro e b ⟨rfl,h⟩;have I:Below b.heap.size b (b.alloc (.cells #[.string G] 9)):=bY _;have s:=h.trans (I.mono h.size);have af:=M.out.below s;have HL:Hid (dd _ ar l):=ew af.rows;have c1:=(s.cell (p:=⟨a.heap.size,0,none⟩) (ag L.out)).trans L.out;have c2:(b.alloc (.cells #[.string G] 9)).cell? ⟨b.heap.size,0,none⟩=some (.string G):=cell_of_row _ _ 0 _ _ _ (heap_alloc_new b _);have RT:=Lh (cr:=cr) (.pointer (some ⟨a.heap.size,0,none⟩)) (.pointer (some ⟨b.heap.size,0,none⟩)) (inK t G) (by omega) HL.out (fun u x hu _=>Wd x a.heap.size b.heap.size t G ((hu.cell (p:=⟨a.heap.size,0,none⟩) (ag c1)).trans c1) ((hu.cell (p:=⟨b.heap.size,0,none⟩) (ag c2)).trans c2))
    have K:=hZ (i.out.trans (s.mono i.out.size));obtain⟨V,Y,Z,i2,i3,i4,i5,i6,i7,i8⟩:=(M.out.below h).box.facts;have ax:∀ (fn:Fn) (first ae:Array Value) (w:World),(Instr.makeFunc fn first ae).run prog w=.ok (.func fn first ae) w:=fun _ _ _ _=>rfl
    have k:Hid (dw d y hi=some (l.filter (inK t G))):=by
     show _=_
     unfold dw;rw[T.out];show (if _ then _ else _)=_
     rw[if_pos ⟨Q,R⟩,a2.out,a4.out]
    clear F h I s af c1 c2 M i L HL;go_wp2_with fail;refine RT.mono ?_;rintro e w7 ⟨v7,rfl,r7,b7⟩;have aj:Hid (Rws w7 w.heap.size v7 (l.filter (inK t G))):=cz r7 K.out.size;have ai:=hZ (K.out.trans (b7.mono K.out.size));clear RT r7 b7;go_wp2;go_ret2;exact⟨_,by rw[k.out];rfl,by rw[k.out];exact aj.out,ai.out⟩
   .rw[if_pos Q]at n
    obtain⟨t,a2⟩:∃ f,Hid (bh (aa d.r) y=f):=⟨_,rfl⟩
    rw[a2.out]at n;have E:Hid (∀ u,Below w2.heap.size w2 u->Calls prog 49 #[.agg #[.slice O (aa d.r).es.length P,.bool (aa d.r).sh,.int .i64 (aa d.r).lv],.string hi] u fun e w'=>e=.returned (.tuple #[.string ⟨#[]⟩,.iface 298 (.pointer (some pl))])/\Below u.heap.size u w'):=fun u hu=>by
     have q:=nw hi a6 (m.out u hu).1 (m.out u hu).2;rw[if_neg R]at q;exact q
    clear m;go_wp2_with fail;rw[<- N.out];go_wp2_with fail;refine n.mono ?_;rintro e a ⟨rfl,g⟩;have H:Below a.heap.size a (a.alloc (.cells #[.string t] 9)):=bY _;have j:Below w2.heap.size w2 (a.alloc (.cells #[.string t] 9)):=g.trans (H.mono g.size);have F:=E.out _ j;obtain⟨V,Y,Z,i2,i3,i4,i5,i6,i7,i8⟩:=(A.out.below g).box.facts;have M:=hZ (A.out.below j);have i:=hZ (z.out.trans (j.mono z.out.size));have L:Hid ((a.alloc (.cells #[.string t] 9)).cell? ⟨a.heap.size,0,none⟩=some (.string t)):=cell_of_row _ _ 0 _ _ _ (heap_alloc_new a _)
    clear n g H A z E N;go_wp2_with fail;refine F.mono ?_;rintro e b ⟨rfl,h⟩;have I:Below b.heap.size b (b.alloc (.cells #[.string ⟨#[]⟩] 9)):=bY _;have s:=h.trans (I.mono h.size);have K:=hZ (i.out.trans (s.mono i.out.size));have k:Hid (dw d y hi=none):=by
     show _=_
     unfold dw;rw[T.out];show (if _ then _ else _)=_
     rw[if_neg (fun c=>R c.2)]
    clear F h I s M i L;go_wp2;go_ret2;exact⟨_,by rw[k.out];rfl,by rw[k.out];exact World.ownsRow_nil _ _ _ _,K.out⟩
  .by_cases R:hi.size<=60
   .rw[if_neg Q]at n
    obtain⟨G,a4⟩:∃ f,Hid (bh (aa d.r) hi=f):=⟨_,rfl⟩
    have E:Hid (∀ u,Below w2.heap.size w2 u->Calls prog 49 #[.agg #[.slice O (aa d.r).es.length P,.bool (aa d.r).sh,.int .i64 (aa d.r).lv],.string hi] u fun e w'=>e=.returned (.tuple #[.string G,.nilIface])/\Below u.heap.size u w'):=fun u hu=>by
     have q:=nw hi a6 (m.out u hu).1 (m.out u hu).2;rw[if_pos R,a4.out]at q;exact q
    clear m;go_wp2_with fail;rw[<- N.out];go_wp2_with fail;refine n.mono ?_;rintro e a ⟨rfl,g⟩;have H:Below a.heap.size a (a.alloc (.cells #[.string ⟨#[]⟩] 9)):=bY _;have j:Below w2.heap.size w2 (a.alloc (.cells #[.string ⟨#[]⟩] 9)):=g.trans (H.mono g.size);have F:=E.out _ j;obtain⟨V,Y,Z,i2,i3,i4,i5,i6,i7,i8⟩:=(A.out.below g).box.facts;have M:=hZ (A.out.below j);have i:=hZ (z.out.trans (j.mono z.out.size));have L:Hid ((a.alloc (.cells #[.string ⟨#[]⟩] 9)).cell? ⟨a.heap.size,0,none⟩=some (.string ⟨#[]⟩)):=cell_of_row _ _ 0 _ _ _ (heap_alloc_new a _)
    clear n g H A z E N;go_wp2_with fail;refine F.mono ?_;rintro e b ⟨rfl,h⟩;have I:Below b.heap.size b (b.alloc (.cells #[.string G] 9)):=bY _;have s:=h.trans (I.mono h.size);have K:=hZ (i.out.trans (s.mono i.out.size));have k:Hid (dw d y hi=none):=by
     show _=_
     unfold dw;rw[T.out];show (if _ then _ else _)=_
     rw[if_neg (fun c=>Q c.1)]
    clear F h I s M i L;go_wp2;go_ret2;exact⟨_,by rw[k.out];rfl,by rw[k.out];exact World.ownsRow_nil _ _ _ _,K.out⟩
   .rw[if_neg Q]at n
    have E:Hid (∀ u,Below w2.heap.size w2 u->Calls prog 49 #[.agg #[.slice O (aa d.r).es.length P,.bool (aa d.r).sh,.int .i64 (aa d.r).lv],.string hi] u fun e w'=>e=.returned (.tuple #[.string ⟨#[]⟩,.iface 298 (.pointer (some pl))])/\Below u.heap.size u w'):=fun u hu=>by
     have q:=nw hi a6 (m.out u hu).1 (m.out u hu).2;rw[if_neg R]at q;exact q
    clear m;go_wp2_with fail;rw[<- N.out];go_wp2_with fail;refine n.mono ?_;rintro e a ⟨rfl,g⟩;have H:Below a.heap.size a (a.alloc (.cells #[.string ⟨#[]⟩] 9)):=bY _;have j:Below w2.heap.size w2 (a.alloc (.cells #[.string ⟨#[]⟩] 9)):=g.trans (H.mono g.size);have F:=E.out _ j;obtain⟨V,Y,Z,i2,i3,i4,i5,i6,i7,i8⟩:=(A.out.below g).box.facts;have M:=hZ (A.out.below j);have i:=hZ (z.out.trans (j.mono z.out.size));have L:Hid ((a.alloc (.cells #[.string ⟨#[]⟩] 9)).cell? ⟨a.heap.size,0,none⟩=some (.string ⟨#[]⟩)):=cell_of_row _ _ 0 _ _ _ (heap_alloc_new a _)
    clear n g H A z E N;go_wp2_with fail;refine F.mono ?_;rintro e b ⟨rfl,h⟩;have I:Below b.heap.size b (b.alloc (.cells #[.string ⟨#[]⟩] 9)):=bY _;have s:=h.trans (I.mono h.size);have K:=hZ (i.out.trans (s.mono i.out.size));have k:Hid (dw d y hi=none):=by
     show _=_
     unfold dw;rw[T.out];show (if _ then _ else _)=_
     rw[if_neg (fun c=>Q c.1)]
    clear F h I s M i L;go_wp2;go_ret2;exact⟨_,by rw[k.out];rfl,by rw[k.out];exact World.ownsRow_nil _ _ _ _,K.out⟩
theorem Nf (hO:Di){w:World} {B:Nat} {vd:Value} {d:Ds7} {ty:TypeId} {pv:Value} {pb pl pf pn:Addr}(t:ByteArray) (aq:t.size<=1048576) (N:Dk7 w B vd d) (T:qt w ty pv pb pl pf pn) :
  Calls prog 25 #[.agg #[.string d.r,vd,.string d.log,.int .i64 d.syn],.string t] w fun e w'=>∃ v,e=.returned (.tuple #[v,.bool (te d t).isSome])/\Rws w' w.heap.size v ((te d t).getD [])/\Below w.heap.size w w':=by
 obtain⟨i,j,ai⟩:=N.form;subst ai;obtain⟨W0,D⟩:∃ W0,W0=(w.alloc (.cells #[.string d.r,.slice i d.ss.length j,.string d.log,.int .i64 d.syn] 25)).alloc (.cells #[.string t] 9):=⟨_,rfl⟩
 have H:Below w.heap.size w W0:=by rw[D];exact (bY _).alloc (by simp) _
 have a3:W0.cell? ⟨w.heap.size+1,0,none⟩=some (.string t):=by
  have h:=heap_alloc_new (w.alloc (.cells #[.string d.r,.slice i d.ss.length j,.string d.log,.int .i64 d.syn] 25)) (.cells #[.string t] 9);rw[World.size_alloc]at h;rw[D];exact cell_of_row _ _ 0 _ _ _ h
 have a4:ba W0 w.heap.size d.r (.slice i d.ss.length j) d.log d.syn:=by
  show _=_
  rw[D,Below.heap_alloc _ _ _ (by simp)];exact heap_alloc_new w _
 obtain⟨an,d0,d1,d2,d3,df⟩:=a4.facts;have C:=Cr hO (N.below H) (T.below H);have a:=hZ H;have f:Hid (W0.cell? ⟨w.heap.size+1,0,none⟩=some (.string t)):=a3;have J:Hid (W0=(w.alloc (.cells #[.string d.r,.slice i d.ss.length j,.string d.log,.int .i64 d.syn] 25)).alloc (.cells #[.string t] 9)):=D;have F:Hid (∀ u,Below w.heap.size w u->qt u ty pv pb pl pf pn):=fun u hu=>T.below hu
 have n:Hid (Ok7 d):=N.ok;obtain⟨o,U⟩:∃ o,o=cm d:=⟨_,rfl⟩
 rw[<- U]at C;have m:=hZ U.symm;clear N T H U a3 a4 D
 cases o with
 | none =>
  have b:Hid (te d t=none):=by show _=_;unfold te;rw[m.out]
  have g:Calls prog 29 #[.agg #[.string d.r,.slice i d.ss.length j,.string d.log,.int .i64 d.syn]] W0 fun e w'=>(∃ S,e=.returned (.tuple #[zIx,S])/\Ik pb S)/\Below (W0).heap.size W0 w':=C
  clear C m F n;go_enter func25,ntmps25;go_wp2_with fail;rw[<- J.out];go_wp2_with fail;refine g.mono ?_;rintro e w1 ⟨⟨S,rfl,a9⟩,c⟩;have O:Below w.heap.size w w1:=a.out.trans (c.mono a.out.size);have a5:Hid (∀ o,Below w.heap.size w (w1.alloc o)):=fun o=>O.alloc O.size o
  unfold zIx;have y:=(c.cell (p:=⟨w.heap.size+1,0,none⟩) (ag f.out)).trans f.out;have a0:=ag y;clear g c O a;rcases a9 with rfl|⟨kk,rfl⟩;all_goals
   go_wp2;go_ret2;exact⟨_,by rw[b.out];rfl,by rw[b.out];exact World.ownsRow_nil _ _ _ _,a5.out _⟩
 | some l =>
  have A:Hid (cm d=some l):=m.out;have g:Calls prog 29 #[.agg #[.string d.r,.slice i d.ss.length j,.string d.log,.int .i64 d.syn]] W0 fun e w'=>(∃ X Y Z,e=.returned (.tuple #[ixV X (aa d.r) d.r Y d.log d.syn Z,.nilIface])/\ac w' W0.heap.size X (aa d.r).es/\ak w' W0.heap.size Y d.ss/\Rws w' W0.heap.size Z l)/\Below W0.heap.size W0 w':=C
  clear C;go_enter func25,ntmps25;go_wp2_with fail;rw[<- J.out];go_wp2_with fail;refine g.mono ?_;rintro e w1 ⟨⟨X,Y,Z,rfl,K,L,M⟩,c⟩;obtain⟨V,W,ah⟩:=Ak K;subst ah;obtain⟨P,R,aj,_⟩:=js L;subst aj;obtain⟨Q,cr,al⟩:=bz M;subst al;obtain⟨w2,z⟩:∃ w2,w2=w1.alloc (.cells #[.slice V (aa d.r).es.length W,.bool (aa d.r).sh,.int .i64 (aa d.r).lv,.string d.r,.slice P d.ss.length R,.string d.log,.int .i64 d.syn,.slice Q l.length cr] 71):=⟨_,rfl⟩
  have a1:Hid (w2=w1.alloc (.cells #[.slice V (aa d.r).es.length W,.bool (aa d.r).sh,.int .i64 (aa d.r).lv,.string d.r,.slice P d.ss.length R,.string d.log,.int .i64 d.syn,.slice Q l.length cr] 71)):=z;have q:Below w.heap.size w w1:=a.out.trans (c.mono a.out.size);have k:Ix7 w2 w.heap.size w1.heap.size (.slice V (aa d.r).es.length W) (aa d.r) d.r (.slice P d.ss.length R) d.ss d.log d.syn (.slice Q l.length cr) l:=by rw[z];exact Nn (ac.low K a.out.size) (kq L a.out.size) (cz M a.out.size) q.size
  have G:Below w1.heap.size w1 w2:=by rw[z];exact bY _
  have s:Below w.heap.size w w2:=q.trans (G.mono q.size);have HI:=hZ k;have E:=hZ s;obtain⟨am,i0,i1,i2,i3,i4,i5,i6,i7,i8⟩:=k.box.facts;have ae:=nu (l8 A.out).2;have ab:=(jz n.out (l8 A.out).2).len;have y:=(c.cell (p:=⟨w.heap.size+1,0,none⟩) (ag f.out)).trans f.out;have a0:=ag y;have I:=(G.cell (p:=⟨w.heap.size+1,0,none⟩) (ag y)).trans y;unfold ixV;by_cases ht:t.size<=60
  .have af:¬ (60:Int)<(t.size:Int):=by omega
   have a8:Hid (∀ x ∈ l,x.text.size<=60):=fun x hx=>((jz n.out (l8 A.out).2).sz x hx).1
   have RT:=Lg (cr:=cr) (.pointer (some ⟨w1.heap.size,0,none⟩)) (.pointer (some ⟨w.heap.size+1,0,none⟩)) (fun x=>ww (aa d.r).es (aa d.r).sh (aa d.r).lv x.text t) (by omega) (ew k.rows) (fun u x hu hx=>Ri x (w.heap.size+1) t (by have:=a8.out x hx;omega) (by omega) (k.below hu) ae (F.out u (s.trans (hu.mono s.size))).tabs ((hu.cell (p:=⟨w.heap.size+1,0,none⟩) (ag I)).trans I));have b:Hid (te d t=some (l.filter (fun x=>ww (aa d.r).es (aa d.r).sh (aa d.r).lv x.text t))):=by
    show _=_
    unfold te;rw[A.out];show (if _ then _ else _)=_
    rw[if_pos ht]
   have ao:∀ (fn:Fn) (first a2:Array Value) (w:World),(Instr.makeFunc fn first a2).run prog w=.ok (.func fn first a2) w:=fun _ _ _ _=>rfl
   clear g K L M c G q s k z F m n a HI f J I;go_wp2_with fail;rw[<- a1.out];go_wp2_with fail;refine RT.mono ?_;rintro e w7 ⟨v7,rfl,r7,b7⟩;have a7:Hid (Rws w7 w.heap.size v7 (l.filter (fun x=>ww (aa d.r).es (aa d.r).sh (aa d.r).lv x.text t))):=cz r7 E.out.size;have a6:=hZ (E.out.trans (b7.mono E.out.size));clear RT r7 b7;go_wp2;go_ret2;exact⟨_,by rw[b.out];rfl,by rw[b.out];exact a7.out,a6.out⟩
  .have af:(60:Int)<(t.size:Int):=by omega
   have b:Hid (te d t=none):=by
    show _=_
    unfold te;rw[A.out];show (if _ then _ else _)=_
    rw[if_neg ht]
   clear g K L M c G q s k z F m n a HI f J I;go_wp2_with fail;rw[<- a1.out];go_wp2;go_ret2;exact⟨_,by rw[b.out];rfl,by rw[b.out];exact World.ownsRow_nil _ _ _ _,E.out⟩
end Go.Proofs.YtjbmgghehdemdaaGreatDoor
