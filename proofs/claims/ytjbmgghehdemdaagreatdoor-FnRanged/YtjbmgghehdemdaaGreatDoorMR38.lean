/- SRng7 -/
import Derived.Test.YtjbmgghehdemdaaGreatDoorMR35
import Derived.Test.YtjbmgghehdemdaaGreatDoorMR37
namespace Go.Proofs.YtjbmgghehdemdaaGreatDoor
set_option maxRecDepth 100000
set_option maxHeartbeats 16000000
open _root_.Go.Proofs.Tryz
open Go.RowKit
structure Hr9 (w u:World) (br:Nat) (d:Ds7) (vp ve vr:Value) (R:RA) (l:List Rw):Prop where
 disk:ba u w.heap.size d.r vp d.log d.syn
 rul:jf u br ve R.sh R.lv
 ents:ac u w.heap.size ve R.es
 rows:Rws u w.heap.size vr l
 bel:Below w.heap.size w u
theorem Hr9.below {w u u':World} {b:Nat} {d:Ds7} {e c vr:Value} {R:RA} {l:List Rw}(h:Hr9 w u b d e c vr R l) (a:Below u.heap.size u u'):Hr9 w u' b d e c vr R l :=
 ⟨h.disk.below a,h.rul.below a,h.ents.below a,h.rows.below a,h.bel.trans (a.mono h.bel.size)⟩
theorem Ks {d:Ds7} {a hi:ByteArray}(h:cm d=none):dw d a hi=none:=by unfold dw;rw[h]
theorem F5 {d:Ds7} {a hi:ByteArray} {l:List Rw}(h:cm d=some l) (hn:¬ (a.size<=60/\hi.size<=60)):dw d a hi=none:=by
 unfold dw;rw[h];show (if _ then _ else _)=_
 rw[if_neg hn]
theorem We {d:Ds7} {a hi:ByteArray} {l:List Rw}(h:cm d=some l) (hn:a.size<=60/\hi.size<=60):dw d a hi=some (l.filter (inK (bh (aa d.r) a) (bh (aa d.r) hi))):=by
 unfold dw;rw[h];show (if _ then _ else _)=_
 rw[if_pos hn]
theorem Lj {w:World} {B:Nat} {vd:Value} {d:Ds7}(g hi:ByteArray) (aE:g.size<=1048576) (aB:hi.size<=1048576) (X:Dk7 w B vd d) :
  Calls prog 22 #[.agg #[.string d.r,vd,.string d.log,.int .i64 d.syn],.string g,.string hi] w fun e w'=>∃ v,e=.returned (.tuple #[v,.bool (dw d g hi).isSome])/\Rws w' w.heap.size v ((dw d g hi).getD [])/\Below w.heap.size w w':=by
 obtain⟨a,f,aF⟩:=X.form;subst aF;have aj:Below w.heap.size w (w.alloc (.cells #[.string d.r,.slice a d.ss.length f,.string d.log,.int .i64 d.syn] 25)):=bY _;have N:=om (X.below aj);have ab:Hid (∀ u,Below w.heap.size w u->Dk7 u B (.slice a d.ss.length f) d):=fun u hu=>X.below hu
 have I:=hZ aj;have Z:Hid (ba (w.alloc (.cells #[.string d.r,.slice a d.ss.length f,.string d.log,.int .i64 d.syn] 25)) w.heap.size d.r (.slice a d.ss.length f) d.log d.syn):=ba.new w _ _ _ _;have ah:Hid (Ok7 d):=X.ok;clear X aj
 cases ho:fu d with
 | none =>
  have h:Hid (dw d g hi=none):=Ks (by unfold cm;rw[ho];split <;> rfl);rw[ho]at N;have T:Calls prog 32 #[.agg #[.string d.r,(.slice a d.ss.length f),.string d.log,.int .i64 d.syn]] (w.alloc (.cells #[.string d.r,.slice a d.ss.length f,.string d.log,.int .i64 d.syn] 25)) fun e w'=>∃ F G,e=.returned (.tuple #[.agg #[F,.bool (aa d.r).sh,.int .i64 (aa d.r).lv],G,.bool false])/\ac w' (w.alloc (.cells #[.string d.r,.slice a d.ss.length f,.string d.log,.int .i64 d.syn] 25)).heap.size F (aa d.r).es/\Rws w' (w.alloc (.cells #[.string d.r,.slice a d.ss.length f,.string d.log,.int .i64 d.syn] 25)).heap.size G []/\Below (w.alloc (.cells #[.string d.r,.slice a d.ss.length f,.string d.log,.int .i64 d.syn] 25)).heap.size (w.alloc (.cells #[.string d.r,.slice a d.ss.length f,.string d.log,.int .i64 d.syn] 25)) w':=N
  clear N ho ab ah Z;go_enter func22,ntmps22;go_wp2_with fail;refine T.mono ?_;rintro e z ⟨F,G,rfl,O,W,p⟩;obtain⟨D,E,am⟩:=cu O;subst am;have ak:=I.out.trans (p.mono I.out.size);have A:Hid (∀ o,Below w.heap.size w (z.alloc o)):=fun o=>ak.alloc ak.size o
  clear T O W p ak;go_wp2;go_ret2;exact⟨_,by rw[h.out];rfl,by rw[h.out];exact World.ownsRow_nil _ _ _ _,A.out _⟩
 | some l =>
  rw[ho]at N;have T:Calls prog 32 #[.agg #[.string d.r,(.slice a d.ss.length f),.string d.log,.int .i64 d.syn]] (w.alloc (.cells #[.string d.r,.slice a d.ss.length f,.string d.log,.int .i64 d.syn] 25)) fun e w'=>∃ F G,e=.returned (.tuple #[.agg #[F,.bool (aa d.r).sh,.int .i64 (aa d.r).lv],G,.bool true])/\ac w' (w.alloc (.cells #[.string d.r,.slice a d.ss.length f,.string d.log,.int .i64 d.syn] 25)).heap.size F (aa d.r).es/\Rws w' (w.alloc (.cells #[.string d.r,.slice a d.ss.length f,.string d.log,.int .i64 d.syn] 25)).heap.size G l/\Below (w.alloc (.cells #[.string d.r,.slice a d.ss.length f,.string d.log,.int .i64 d.syn] 25)).heap.size (w.alloc (.cells #[.string d.r,.slice a d.ss.length f,.string d.log,.int .i64 d.syn] 25)) w':=N
  have U:Hid (fu d=some l):=ho;clear N ho;go_enter func22,ntmps22;go_wp2_with fail;refine T.mono ?_;rintro e z ⟨F,G,rfl,O,W,p⟩;obtain⟨D,E,am⟩:=cu O;subst am;obtain⟨ar,cr,aG⟩:=bz W;subst aG;obtain⟨w2,a9⟩:∃ w2,w2=z.alloc (.cells #[.slice D (aa d.r).es.length E,.bool (aa d.r).sh,.int .i64 (aa d.r).lv] 56):=⟨_,rfl⟩
  have a5:Hid (w2=z.alloc (.cells #[.slice D (aa d.r).es.length E,.bool (aa d.r).sh,.int .i64 (aa d.r).lv] 56)):=a9;have a7:Below z.heap.size z w2:=by rw[a9];exact bY _
  have ai:=p.trans (a7.mono p.size);have al:Hr9 w w2 z.heap.size d (.slice a d.ss.length f) (.slice D (aa d.r).es.length E) (.slice ar l.length cr) (aa d.r) l:=⟨Z.out.below ai,by show _=_;rw[a9];exact heap_alloc_new z _,(ac.low O I.out.size).below a7,(cz W I.out.size).below a7,I.out.trans (ai.mono I.out.size)⟩;have M:=uf (ab.out w2 al.bel);have a3:=hZ al;obtain⟨aI,d0,d1,d2,d3,df⟩:=(Z.out.below p).facts;have a8:=nu U.out;have aD:=(jz ah.out U.out).len;clear T O W p a7 ai a9 al Z ab ah
  cases hsy:ov d
  .have h:Hid (dw d g hi=none):=Ks (by unfold cm;rw[if_neg (by rw[hsy];simp)])
   have L:(cm d).isSome=false:=by unfold cm;rw[if_neg (by rw[hsy];simp)];rfl
   rw[L]at M;clear hsy L U;go_wp2_with fail;rw[<- a5.out];refine M.mono ?_;rintro e H ⟨rfl,V⟩;have P:Hid (Below w.heap.size w H):=(a3.out.below V).bel;clear M V a3 a5;go_wp2;go_ret2;exact⟨_,by rw[h.out];rfl,by rw[h.out];exact World.ownsRow_nil _ _ _ _,P.out⟩
  .have L:cm d=some l:=by unfold cm;rw[if_pos hsy];exact U.out
   have af:Hid (cm d=some l):=L;rw[L]at M;have an:Calls prog 33 #[.agg #[.string d.r,(.slice a d.ss.length f),.string d.log,.int .i64 d.syn]] w2 fun e w'=>e=.returned (.bool true)/\Below w2.heap.size w2 w':=M
   clear hsy L U M;go_wp2_with fail;rw[<- a5.out];refine an.mono ?_;rintro e H ⟨rfl,V⟩;have K:=hZ (a3.out.below V);clear an V a3 a5;by_cases ha:¬ g.size<=60
   .have h:Hid (dw d g hi=none):=F5 af.out (fun c=>ha c.1)
    have ay:(60:Int)<(g.size:Int):=by omega
    have P:Hid (Below w.heap.size w H):=K.out.bel;go_wp2;go_ret2;exact⟨_,by rw[h.out];rfl,by rw[h.out];exact World.ownsRow_nil _ _ _ _,P.out⟩
   replace ha:g.size<=60:=Decidable.not_not.1 ha;have ay:¬ (60:Int)<(g.size:Int):=by omega
   by_cases n:¬ hi.size<=60
   .have h:Hid (dw d g hi=none):=F5 af.out (fun c=>n c.2)
    have az:(60:Int)<(hi.size:Int):=by omega
    have P:Hid (Below w.heap.size w H):=K.out.bel;go_wp2;go_ret2;exact⟨_,by rw[h.out];rfl,by rw[h.out];exact World.ownsRow_nil _ _ _ _,P.out⟩
   replace n:hi.size<=60:=Decidable.not_not.1 n;have az:¬ (60:Int)<(hi.size:Int):=by omega
   have h:Hid (dw d g hi=some (l.filter (inK (bh (aa d.r) g) (bh (aa d.r) hi)))):=We af.out ⟨ha,n⟩;have K1:Calls prog 52 #[.agg #[(.slice D (aa d.r).es.length E),.bool (aa d.r).sh,.int .i64 (aa d.r).lv],.string g] H fun e w'=>e=.returned (.tuple #[.string (bh (aa d.r) g),.bool true])/\Below H.heap.size H w':=by
    have q:=Fb (sh:=(aa d.r).sh) (lv:=(aa d.r).lv) g aE K.out.ents (nd a8);rw[gd a8 (by omega)]at q;exact q
   have ao:Hid (∀ u,ac u w.heap.size (.slice D (aa d.r).es.length E) (aa d.r).es->Calls prog 52 #[.agg #[(.slice D (aa d.r).es.length E),.bool (aa d.r).sh,.int .i64 (aa d.r).lv],.string hi] u fun e w'=>e=.returned (.tuple #[.string (bh (aa d.r) hi),.bool true])/\Below u.heap.size u w'):=fun u hu=>by
    have q:=Fb (sh:=(aa d.r).sh) (lv:=(aa d.r).lv) hi aB hu (nd a8);rw[gd a8 (by omega)]at q;exact q
   obtain⟨ap,u0,u1,u2⟩:=K.out.rul.facts;generalize bh (aa d.r) g=from_ at *;generalize bh (aa d.r) hi=to_ at *;go_wp2_with fail;refine K1.mono ?_;rintro e w4 ⟨rfl,b4⟩;have a4:=hZ (K.out.below b4);have K2:=ao.out w4 a4.out.ents;obtain⟨ap,u0,u1,u2⟩:=a4.out.rul.facts;clear K1 b4 K ao;go_wp2_with fail;refine K2.mono ?_;rintro e m ⟨rfl,b5⟩;have ae:=hZ (a4.out.below b5);have HS:Hid (∀ u,Below m.heap.size m u->dd u ar l):=fun u hu=>ew (ae.out.rows.below hu)
   have aq:w.heap.size<=m.heap.size:=ae.out.bel.size;clear K2 b5 a4 u0 u1 u2 ap;go_wp2_with fail;go_loopw [15,61] (fun v i wr=>∃ k:Nat,k<=l.length/\i=.int .i64 (k:Int)/\Rws wr m.heap.size v ((l.take k).filter (inK from_ to_))/\Below m.heap.size m wr) (fun _ i _=>l.length-(intOf i).toNat)
   case atStart=>exact⟨0,Nat.zero_le _,rfl,World.ownsRow_nil _ _ _ _,bX⟩
   case round =>
    obtain⟨k,hk,rfl,hR,n⟩:=hrel;by_cases aC:k<l.length
    .obtain⟨x,Y⟩:∃ x,l[k]? = some x:=by exact⟨_,List.getElem?_eq_getElem aC⟩
     have ax:Hid (l[k]? = some x):=Y;rcases HS.out wr n with h0|⟨b,o,rfl,hE⟩
     .rw[h0]at Y;simp at Y
     obtain⟨a0,a1,a2⟩:=hE k x Y;have aH:=ag a0;have aJ:(k:Int)<(l.length:Int):=by omega
     have p:Below wr.heap.size wr (wr.alloc (.cells #[.string x.key,.string x.text,.string x.val] 37)):=bY _;have b2:Below wr.heap.size wr ((wr.alloc (.cells #[.string x.key,.string x.text,.string x.val] 37)).alloc (.cells #[.string x.key,.string x.text,.string x.val] 37)):=p.alloc (by simp) _;have C:Hid ((l.take (k+1)).filter (inK from_ to_)=(l.take k).filter (inK from_ to_)++[x].filter (inK from_ to_)):=by show _=_;rw[List.take_add_one,ax.out,List.filter_append];rfl
     have aA:((l.take k).filter (inK from_ to_)).length<=60:=by have:=List.length_filter_le (inK from_ to_) (l.take k);have:=List.length_take_le k l;omega
     obtain⟨t,av⟩:∃ t,Hid ((l.take k).filter (inK from_ to_)=t):=⟨_,rfl⟩
     have s:Rws wr m.heap.size u15 ((l.take k).filter (inK from_ to_)):=hR;rw[av.out]at s C aA;obtain⟨ra,rc,hv⟩:=bz s;subst hv;have R:Hid (∀ o,Rws (wr.alloc o) m.heap.size (.slice ra t.length rc) t):=fun o=>s.below (bY o)
     have A:Hid (∀ o,Below m.heap.size m (wr.alloc o)):=fun o=>n.alloc n.size o
     have S:=hZ (s.below b2);have J:=hZ (n.trans (b2.mono n.size));have a6:Hid (SlV ((wr.alloc (.cells #[.string x.key,.string x.text,.string x.val] 37)).alloc (.cells #[.string x.key,.string x.text,.string x.val] 37)) (.slice (some ⟨wr.heap.size+1,0,none⟩) 1 1) [x]):=(gg (wr.alloc (.cells #[.string x.key,.string x.text,.string x.val] 37)) (wr.heap.size+1) 0 x (by simp) (Nat.zero_le _)).slV;clear hE Y n p b2 hR s
     cases hlo:ltK x.key from_
     .cases hhi:ltK x.key to_
      .have y:inK from_ to_ x=false:=by unfold inK;rw[hlo,hhi];rfl
       have Q:Hid ((l.take (k+1)).filter (inK from_ to_)=t):=by show _=_;rw[C.out];simp[y]
       unfold ltK at hlo hhi;clear C S J a6 y;go_wp2;exact⟨⟨k+1,by omega,by go_num,by rw[Q.out];exact R.out _,A.out _⟩,by simp[intOf];omega⟩
      .have y:inK from_ to_ x=true:=by unfold inK;rw[hlo,hhi];rfl
       have Q:Hid ((l.take (k+1)).filter (inK from_ to_)=t++[x]):=by show _=_;rw[C.out];simp[y]
       unfold ltK at hlo hhi;clear C y R A;go_wp2_with (at_builtin;refine ef rfl _ _ rfl m.heap.size (.slice ra t.length rc) (.slice (some ⟨wr.heap.size+1,0,none⟩) 1 1) t [x] rfl rfl S.out a6.out (by simp;omega) J.out.size ?_)
       intro v8 w8 r8 g8;have au:Hid (Below m.heap.size m w8):=Below.grown J.out g8 J.out.size (fun j hj=>(World.ownsRow.lt S.out j hj).1);have aw:=hZ r8;clear r8 g8 S J a6;go_wp2;exact⟨⟨k+1,by omega,by go_num,by rw[Q.out];exact aw.out,au.out⟩,by simp[intOf];omega⟩
     .have y:inK from_ to_ x=false:=by unfold inK;rw[hlo];rfl
      have Q:Hid ((l.take (k+1)).filter (inK from_ to_)=t):=by show _=_;rw[C.out];simp[y]
      unfold ltK at hlo;clear C S J a6 y;go_wp2;exact⟨⟨k+1,by omega,by go_num,by rw[Q.out];exact R.out _,A.out _⟩,by simp[intOf];omega⟩
    .obtain rfl:k=l.length:=by omega
     have s:Rws wr m.heap.size u15 ((l.take l.length).filter (inK from_ to_)):=hR;rw[List.take_length]at s;have R:Hid (Rws wr w.heap.size u15 (l.filter (inK from_ to_))):=cz s aq;have A:=hZ (ae.out.bel.trans (n.mono aq));clear hR s n;go_wp2;go_ret2;exact⟨_,by rw[h.out];rfl,by rw[h.out];exact R.out,A.out⟩
end Go.Proofs.YtjbmgghehdemdaaGreatDoor
