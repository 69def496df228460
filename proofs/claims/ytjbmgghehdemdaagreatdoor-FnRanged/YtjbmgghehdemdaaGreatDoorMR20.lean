/- SBook6 -/
import Derived.Test.YtjbmgghehdemdaaGreatDoorMR17
namespace Go.Proofs.YtjbmgghehdemdaaGreatDoor
set_option maxRecDepth 100000
set_option maxHeartbeats 16000000
open _root_.Go.Proofs.Tryz
open Go.RowKit
def Ch (ss:List ByteArray):Nat->ByteArray
 | 0=>⟨#[]⟩
 | j+1=>match ss[j]? with
  | none=>⟨#[]⟩
  | some y=>mu (an y)
theorem Es {ss:List ByteArray} {j:Nat} {y:ByteArray}(h:ss[j]? = some y):Ch ss (j+1)=mu (an y):=by simp[Ch,h]
def as1 (w:World) (ss:List ByteArray) (vb vl i:Value) (wr:World):Prop :=
 ∃ (k hi:Nat) (vs:List Value),k<=ss.length/\i=.int .i64 (k:Int)/\vl=.string (Ch ss k)/\bj wr w.heap.size hi vb (dp ss k) vs/\bkF (dp ss k) (ss.drop k)=ca ss/\Below w.heap.size w wr
theorem Rs {w:World} {B:Nat} {vp:Value} {ss:List ByteArray}(hS:ak w B vp ss) (hz:∀ s ∈ ss,s.size<=1048576) (hl:ss.length<=1048576) :
  Calls prog 77 #[vp] w fun e w'=>∃ v,e=.returned (.tuple #[v,.bool (ca ss).isSome])/\(∀ gs,ca ss=some gs->∃ vs,bj w' w.heap.size w'.heap.size v gs vs)/\Below w.heap.size w w':=by
 obtain⟨a,c,rfl,hq⟩:=js hS;have HQ:Hid _:=hq;have HZ:=hZ hz;clear hS hq hz;by_cases a9:ss.length<=40
 .have ap:¬ (40:Int)<(ss.length:Int):=by omega
  obtain⟨i1,hi1,ab,ac,ad⟩:=info_parts Fu;have ae:Hid (bkF (dp ss 0) (ss.drop 0)=ca ss):=by show _=_;unfold ca;rw[if_pos a9];simp[dp]
  go_enter func77,ntmps77;go_wp2_with fail;go_loopw [4,5,15] (fun vb vl i wr=>as1 w ss vb vl i wr) (fun _ _ i _=>ss.length-(intOf i).toNat)
  case atStart=>exact⟨0,_,[],Nat.zero_le _,rfl,rfl,bj.nil w _,ae.out,bX⟩
  case round =>
   obtain⟨k,V,vs,hk,rfl,rfl,U,T,Q⟩:=hrel;by_cases al:k<ss.length
   .obtain⟨s,F⟩:∃ s,ss[k]? = some s:=⟨_,List.getElem?_eq_getElem al⟩
    obtain⟨g,rfl,qc⟩:=HQ.out k s F;have c0:=qc wr Q k s F;have aq:=ag c0;have am:(k:Int)<(ss.length:Int):=by omega
    have P:=Pg s wr (HZ.out s (List.mem_of_getElem? F));have ax:=yj s;have ay:=HZ.out s (List.mem_of_getElem? F);have m:=hZ F;have o:Hid (bj wr w.heap.size V _ (dp ss k) vs):=U;have D:=hZ T;have l:=hZ Q;clear F U T Q qc;by_cases I:da s=0
    .rw[I]at P
     have a0:=vu I;have a7:Hid (Ch ss (k+1)=mu (an s)):=Es m.out;obtain⟨x0,a5⟩:∃ x0,(an s)[0]? = some x0:=⟨_,List.getElem?_eq_getElem a0⟩
     obtain⟨xl,a6⟩:∃ xl,(an s)[(an s).length-1]? = some xl:=⟨_,List.getElem?_eq_getElem (by omega)⟩
     have af:Hid (qb (an s)=x0.key):=Se a5;have a8:Hid (mu (an s)=xl.key):=Ss a6;have HX:=hZ a5;have ah:=hZ a6;clear a5 a6;have av:((an s).length:Int)-1=(((an s).length-1:Nat):Int):=by omega
     have aw:(((an s).length-1:Nat):Int)<((an s).length:Int):=by omega
     have aa:(0:Int)<((an s).length:Int):=by omega
     go_wp2_with fail;refine P.mono ?_;rintro e f ⟨v2,rfl,G,u⟩;obtain⟨A,z,rfl,q2⟩:=Oy G a0;have d0:f.cell? ⟨A,0,none⟩=some (.string x0.key):=q2 0 x0 HX.out;have dl:=q2 _ xl ah.out;have ar:=ag d0;have R:=hZ (o.out.below u);have p:=hZ (l.out.trans (u.mono l.out.size));have S:Hid (Rws f wr.heap.size _ _):=G;have C:=hZ u;clear P G u q2;by_cases ai:k=0
     .subst ai
      have HO:Hid (ft (dp ss 0) s=true):=by show _=_;rw[Ew,I];rfl
      have q:Hid (bj f w.heap.size V _ (dp ss 0) vs):=R.out;have b:=hZ p.out;have J:(dp ss 0).length=0:=wu hk;have ao:=b.out.size;have d:=(Below.refl f.heap.size f).alloc bR (.cells #[.slice (some ⟨A,0,none⟩) (an s).length z] 32);have n:=(q.out.below d).row;obtain⟨a1,c1,Z,_⟩:=q.out.form;subst Z;have N:Hid (Below wr.heap.size wr (f.alloc (.cells #[.slice (some ⟨A,0,none⟩) (an s).length z] 32))):=C.out.alloc C.out.size _;have H:=hZ (S.out.below d)
      go_wp2_with (at_builtin;refine wpList_append_lies _ rfl _ _ 132 rfl w.heap.size 32 i1 (.slice none 0 0) 1 24 underlying132 hi1 ab ac ad rfl (by decide) _ _ _ rfl n ⟨_,0,none⟩ 1 1 [.slice (some ⟨A,0,none⟩) (an s).length z] rfl rfl (cell_one_new _ _ _) (fun x hx=>by simp at hx;subst hx;rfl) (by omega) (by unfold maxLen;omega) (by omega) (by simp;omega) _ rfl ?_)
      intro g5 c5 u5 K r a3 a4;have E:=o.out.push l.out.size N.out H.out r K;have M:Below w.heap.size w u5:=Below.grown (b.out.trans (d.mono b.out.size)) r (Nat.le_trans b.out.size d.size) (fun j hj=>(World.ownsRow.lt n j hj).1);have O:bj u5 w.heap.size u5.heap.size (.slice (some ⟨g5,0,none⟩) ((dp ss 0).length+1) c5) (dp ss (0+1)) _:=mg m.out ▸ E;have Y:Hid _:=O;have W:=hZ M;have X:Hid (bkF (dp ss (0+1)) (ss.drop (0+1))=ca ss):=by show _=_;rw[<- D.out,Dm m.out HO.out,mg m.out]
      clear E M O o l N H r K n d q b R p S C D;go_wp2;exact⟨⟨0+1,_,_,by omega,by go_num,(by rw[a7.out,a8.out]),Y.out,X.out,W.out⟩,by simp[intOf];omega⟩
     .obtain⟨j,rfl⟩:∃ j,k=j+1:=⟨k-1,by omega⟩
      obtain⟨y,hy⟩:∃ y,ss[j]? = some y:=⟨_,List.getElem?_eq_getElem (by omega)⟩
      have L:=Ev (s:=s) hy;rw[I,af.out,<- Es hy]at L;have au:(0:Int)<((j+1:Nat):Int):=by omega
      generalize Ch ss (j+1)=lk at *
      cases hlk:ltK lk x0.key
      .have t:Hid (ca ss=none):=by show _=_;rw[<- D.out];exact Gx m.out (by rw[L,hlk];rfl)
       unfold ltK at hlk;clear L;go_wp2_with fail;have b:=hZ p.out;go_ret2;rw[t.out];exact⟨_,rfl,fun gs h=>(by cases h),b.out⟩
      .have HO:Hid (ft (dp ss (j+1)) s=true):=by show _=_;rw[L,hlk];rfl
       unfold ltK at hlk;clear L;have q:Hid (bj f w.heap.size V _ (dp ss (j+1)) vs):=R.out;have b:=hZ p.out;have J:(dp ss (j+1)).length=j+1:=wu hk;have ao:=b.out.size;have d:=(Below.refl f.heap.size f).alloc bR (.cells #[.slice (some ⟨A,0,none⟩) (an s).length z] 32);have n:=(q.out.below d).row;obtain⟨a1,c1,Z,_⟩:=q.out.form;subst Z;rw[J]at n;have N:Hid (Below wr.heap.size wr (f.alloc (.cells #[.slice (some ⟨A,0,none⟩) (an s).length z] 32))):=C.out.alloc C.out.size _;have H:=hZ (S.out.below d)
       go_wp2_with (at_builtin;refine wpList_append_lies _ rfl _ _ 132 rfl w.heap.size 32 i1 (.slice none 0 0) 1 24 underlying132 hi1 ab ac ad rfl (by decide) _ _ _ rfl n ⟨_,0,none⟩ 1 1 [.slice (some ⟨A,0,none⟩) (an s).length z] rfl rfl (cell_one_new _ _ _) (fun x hx=>by simp at hx;subst hx;rfl) (by omega) (by unfold maxLen;omega) (by omega) (by simp;omega) _ rfl ?_)
       intro g5 c5 u5 K r a3 a4;have E:=o.out.push l.out.size N.out H.out (by rw[J];exact r) (by rw[J];exact K);rw[mg m.out,J]at E;have M:Below w.heap.size w u5:=Below.grown (b.out.trans (d.mono b.out.size)) r (Nat.le_trans b.out.size d.size) (fun i hj=>(World.ownsRow.lt n i hj).1);have O:bj u5 w.heap.size u5.heap.size (.slice (some ⟨g5,0,none⟩) (j+1+1) c5) (dp ss (j+1+1)) _:=E;have Y:Hid _:=O;have W:=hZ M;have X:Hid (bkF (dp ss (j+1+1)) (ss.drop (j+1+1))=ca ss):=by show _=_;rw[<- D.out,Dm m.out HO.out,mg m.out]
       clear E M O o l N H r K n d q b R p S C D;go_wp2;exact⟨⟨j+1+1,_,_,by omega,by go_num,(by rw[a7.out,a8.out]),Y.out,X.out,W.out⟩,by simp[intOf];omega⟩
    .have t:Hid (ca ss=none):=by show _=_;rw[<- D.out];exact Gx m.out (by unfold ft;rw[decide_eq_false I];rfl)
     generalize da s=cd at *;go_wp2_with fail;refine P.mono ?_;rintro e f ⟨v2,rfl,G,u⟩;obtain⟨a2,z,rfl⟩:=bz G;have p:=hZ (l.out.trans (u.mono l.out.size));clear P G u;go_wp2_with fail;have b:=hZ p.out;go_ret2;rw[t.out];exact⟨_,rfl,fun gs h=>(by cases h),b.out⟩
   .have aj:k=ss.length:=by omega
    subst aj;have t:Hid (ca ss=some (dp ss ss.length)):=by show _=_;rw[<- T,Sf]
    have o:Hid (bj wr w.heap.size V _ (dp ss ss.length) vs):=U;have l:=hZ Q;clear U Q T;go_wp2;go_ret2;rw[t.out];exact⟨_,rfl,fun gs h=>by obtain rfl:=Option.some.inj h;exact⟨_,o.out.high o.out.top bR⟩,l.out⟩
 .have ap:(40:Int)<(ss.length:Int):=by omega
  have t:Hid (ca ss=none):=by show _=_;unfold ca;rw[if_neg a9]
  go_enter func77,ntmps77;go_wp2;go_ret2;rw[t.out];exact⟨_,rfl,fun gs h=>(by cases h),bX⟩
def ba (u:World) (p:Nat) (r:ByteArray) (v:Value) (log:ByteArray) (syn:Int):Prop:=u.heap[p]? = some (.cells #[.string r,v,.string log,.int .i64 syn] 25)
theorem ba.lt {u:World} {p:Nat} {r:ByteArray} {v:Value} {log:ByteArray} {syn:Int}(h:ba u p r v log syn):p<u.heap.size:=(Array.getElem?_eq_some_iff.1 h).1
theorem ba.below {u u':World} {p:Nat} {r:ByteArray} {v:Value} {log:ByteArray} {syn:Int}(h:ba u p r v log syn) (a:Below u.heap.size u u'):ba u' p r v log syn:=(a.block p h.lt).trans h
theorem ba.facts {u:World} {p:Nat} {r:ByteArray} {v:Value} {log:ByteArray} {syn:Int}(h:ba u p r v log syn):p<u.heap.size/\u.cell? ⟨p,0,none⟩=some (.string r)/\u.cell? ⟨p,1,none⟩=some v/\u.cell? ⟨p,2,none⟩=some (.string log)/\u.cell? ⟨p,3,none⟩=some (.int .i64 syn)/\∀ j,u.frozen? ⟨p,j,none⟩=false :=
 ⟨h.lt,cell_of_row _ _ 0 _ _ _ h,cell_of_row _ _ 1 _ _ _ h,cell_of_row _ _ 2 _ _ _ h,cell_of_row _ _ 3 _ _ _ h,fun j=>frozen_of_row _ _ j _ _ h⟩
theorem ba.new (w:World) (r:ByteArray) (v:Value) (log:ByteArray) (syn:Int):ba (w.alloc (.cells #[.string r,v,.string log,.int .i64 syn] 25)) w.heap.size r v log syn:=heap_alloc_new w _
theorem Wy {w u:World} {p:Nat} {a b c d:Value}(h:Below w.heap.size w u) (e:w.heap.size<=p):Below w.heap.size w ((((u.setCell ⟨p,0,none⟩ a).setCell ⟨p,1,none⟩ b).setCell ⟨p,2,none⟩ c).setCell ⟨p,3,none⟩ d) :=
 (((h.setCell (p:=⟨p,0,none⟩) e _).setCell (p:=⟨p,1,none⟩) e _).setCell (p:=⟨p,2,none⟩) e _).setCell (p:=⟨p,3,none⟩) e _
theorem V9 (w:World) (g k:Nat) (u:Value):w.grownBy (w.setCell ⟨g,k,none⟩ u) (some g) :=
 ⟨rfl,rfl,rfl,by simp,fun i _ hn=>heap_setCell_other _ ⟨g,k,none⟩ i _ (fun e=>hn (by rw[e]))⟩
theorem Xa (u:World) (p:Nat) (a b c d:Value):u.grownBy ((((u.setCell ⟨p,0,none⟩ a).setCell ⟨p,1,none⟩ b).setCell ⟨p,2,none⟩ c).setCell ⟨p,3,none⟩ d) (some p) :=
 (((V9 u p 0 a).trans (V9 _ p 1 b)).trans (V9 _ p 2 c)).trans (V9 _ p 3 d)
theorem Rv {w:World} {B p:Nat} {v:Value} {ss:List ByteArray} {r:ByteArray} {x:Value} {log:ByteArray} {syn:Int}(h:ak w B v ss) (a:ba w p r x log syn):v.ownBlock=none\/v.ownBlock≠some p:=by
 rcases h.2 with ⟨rfl,_⟩|⟨g,d,f,rfl,_,c,_⟩
 .exact .inl rfl
 .refine .inr fun e=>?_
  have b:g=p:=Option.some.inj e;subst b;unfold ba at a;rw[c]at a;injection a with q1;injection q1 with _ q2;exact absurd q2 (by decide)
theorem kq {u:World} {B a:Nat} {v:Value} {ss:List ByteArray}(h:ak u a v ss) (e:B<=a):ak u B v ss:=by
 refine⟨h.1,?_⟩;rcases h.2 with d|⟨g,b,c,q1,q2,q3⟩
 .exact .inl d
 .exact .inr ⟨g,b,c,q1,Nat.le_trans e q2,q3⟩
def ay0 (W:World) (B:Nat) (ss:List ByteArray) (v i:Value) (wr:World):Prop :=
 ∃ k:Nat,k<=ss.length/\i=.int .i64 (k:Int)/\ak wr B v (ss.take k)/\Below W.heap.size W wr
theorem Xk {ss:List ByteArray} {k:Nat} {s:ByteArray}(h:ss[k]? = some s):ss.take (k+1)=ss.take k++[s]:=by rw[List.take_add_one,h];rfl
theorem Mj {w:World} {B:Nat} {vp:Value} {ss:List ByteArray}(r log:ByteArray) (syn:Int) (b:ak w B vp ss) (hz:∀ s ∈ ss,s.size<=1048576) (hl:ss.length<=1048576) (hr:r.size<=1048576) (ab:log.size<=1048576) :
  Calls prog 88 #[.agg #[.string r,vp,.string log,.int .i64 syn]] w fun e w'=>∃ v',e=.returned (.agg #[.string r,v',.string log,.int .i64 syn])/\ak w' w.heap.size v' ss/\Below w.heap.size w w':=by
 obtain⟨a,c,rfl,hq⟩:=js b;obtain⟨i1,hi1,ad,ae,af⟩:=info_parts Kb;obtain⟨W,l⟩:∃ W,W=(w.alloc (.cells #[.string r,.slice a ss.length c,.string log,.int .i64 syn] 25)).alloc (.cells #[.string ⟨#[]⟩,.slice none 0 0,.string ⟨#[]⟩,.int .i64 0] 25):=⟨_,rfl⟩
 have H:Below w.heap.size w W:=by rw[l];exact (bY _).alloc (by simp) _
 have al:W.heap.size=w.heap.size+2:=by rw[l];simp
 have I:ba W w.heap.size r (.slice a ss.length c) log syn:=by
  show _=_
  rw[l,Below.heap_alloc _ _ _ (by simp)];exact heap_alloc_new w _
 have R:ba W (w.heap.size+1) ⟨#[]⟩ (.slice none 0 0) ⟨#[]⟩ 0:=by
  have h:=heap_alloc_new (w.alloc (.cells #[.string r,.slice a ss.length c,.string log,.int .i64 syn] 25)) (.cells #[.string ⟨#[]⟩,.slice none 0 0,.string ⟨#[]⟩,.int .i64 0] 25);rw[World.size_alloc]at h;show _=_
  rw[l];exact h
 have a4:=hZ I;have a6:=hZ R;have O:=hZ H;have HQ:Hid (∀ (j:Nat) (s:ByteArray),ss[j]? = some s->∃ g,a=some ⟨g,0,none⟩/\∀ w',Below W.heap.size W w'->∀ (j:Nat) (s:ByteArray),ss[j]? = some s->w'.cell? ⟨g,j,none⟩=some (.string s)):=fun j s d=>by
  obtain⟨g,h1,h2⟩:=hq j s d;exact⟨g,h1,fun w' hw'=>h2 w' (H.trans (hw'.mono (by omega)))⟩
 have K:Hid (∀ (s:ByteArray) (u:World),s.size<=1048576->Calls prog 123 #[.string s] u fun e w'=>e=.returned (.string s)/\Below u.heap.size u w'):=fun s u d=>Jm s u d
 have HZ:=hZ hz;have HW:=hZ l;obtain⟨p1,Y,Z,a0,a1,a2⟩:=I.facts;clear b hq hz I R H l;go_enter func88,ntmps88;go_wp2_with fail;rw[<- HW.out];clear HW;go_wp2_with fail;go_loopw [3,9] (fun v i wr=>ay0 W W.heap.size ss v i wr) (fun _ i _=>ss.length-(intOf i).toNat)
 case atStart=>exact⟨0,Nat.zero_le _,rfl,World.ownsRow_nil _ _ _ _,bX⟩
 case round =>
  clear p1 Y Z a0 a1 a2;obtain⟨k,hk,rfl,b,N⟩:=hrel;have z:=hZ b;have f:=hZ N;have ah:=N.size;clear b N;by_cases U:k<ss.length
  .obtain⟨s,d⟩:∃ s,ss[k]? = some s:=by exact⟨_,List.getElem?_eq_getElem U⟩
   obtain⟨g,rfl,S⟩:=HQ.out k s d;have e0:=S wr f.out k s d;have aa:=ag e0;have ai:(k:Int)<(ss.length:Int):=by omega
   have C:=K.out s wr (HZ.out s (List.mem_of_getElem? d));have HT:Hid (ss.take (k+1)=ss.take k++[s]):=Xk d;have V:(ss.take k).length=k:=by rw[List.length_take];omega
   clear S d;go_wp2_with fail;refine C.mono ?_;rintro e w2 ⟨rfl,L⟩;have P:=hZ (z.out.below L);have t:=hZ (f.out.trans (L.mono f.out.size));have aj:=t.out.size;have M:=(Below.refl w2.heap.size w2).alloc bR (.cells #[.string s] 9);have n:=P.out.below M;have Q:=hZ n;have F:=hZ (t.out.trans (M.mono t.out.size));unfold ak at n;rw[V]at n;clear C L M z f e0 aa P t
   go_wp2_with (at_builtin;refine wpList_append_own _ rfl _ _ 23 rfl W.heap.size 9 i1 (.string ⟨#[]⟩) 1 16 underlying23 hi1 ad ae af rfl (by decide) _ _ _ rfl n ⟨_,0,none⟩ 1 1 [.string s] rfl rfl (cell_one_new _ _ _) (fun x hx=>by simp at hx;subst hx;rfl) (by unfold maxLen;omega) (by omega) (by simp;omega) ?_;intro v4 w4 X T _)
   have a8:Hid (ak w4 W.heap.size v4 (ss.take k++[s])):=ak.snoc (by rw[V];exact X);have a3:Hid (Below W.heap.size W w4):=Below.grown F.out T F.out.size (fun j hj=>(World.ownsRow.lt Q.out j hj).1);clear X T Q F n;go_wp2;exact⟨⟨k+1,by omega,by go_num,by rw[HT.out];exact a8.out,a3.out⟩,by simp[intOf];omega⟩
  .obtain rfl:k=ss.length:=by omega
   have b:=z.out;rw[List.take_length]at b;obtain⟨A,D,ac,_⟩:=js b;subst ac;have a9:=hZ b;have G:=hZ (a4.out.below f.out);have y:=hZ (a6.out.below f.out);obtain⟨p1,Y,Z,a0,a1,a2⟩:=G.out.facts;obtain⟨q1,am,an,ao,ap,aq⟩:=y.out.facts;have CR:=fun u=>K.out r u hr
   have CL:=fun u=>K.out log u ab
   clear b z U hk;go_wp2_with fail;go_region_law (first
    | (go_simp;go_at_call 123;refine (CR _).mono ?_;rintro e w5 ⟨rfl,o⟩;have E:Below wr.heap.size wr w5:=⟨o.os,o.tape,o.output,o.size,o.block⟩;obtain⟨r1,ar,au,aw,ax,ay⟩:=(G.out.below E).facts;obtain⟨s1,az,aA,aB,aC,aD⟩:=(y.out.below E).facts)
    | (go_simp;go_at_call 123;refine (CL _).mono ?_;rintro e w6 ⟨rfl,p⟩;have z6:Below w5.heap.size w5 w6:=⟨p.os,p.tape,p.output,p.size,p.block⟩;have q:Below wr.heap.size wr w6:=E.trans (z6.mono E.size);obtain⟨t1,aE,aF,aG,aH,aI⟩:=(G.out.below q).facts;obtain⟨v1,aJ,aK,aL,aM,aN⟩:=(y.out.below q).facts))
   all_goals
    have J:=a9.out.below q;have a7:Hid (ak ((((w6.setCell ⟨w.heap.size+1,0,none⟩ (.string r)).setCell ⟨w.heap.size+1,1,none⟩ (.slice A ss.length D)).setCell ⟨w.heap.size+1,2,none⟩ (.string log)).setCell ⟨w.heap.size+1,3,none⟩ (.int .i64 syn)) w.heap.size (.slice A ss.length D) ss):=kq (World.ownsRow.kept J (Xa w6 (w.heap.size+1) _ _ _ _) (Rv J (y.out.below q))) (by omega);have m:Hid (Below w.heap.size w ((((w6.setCell ⟨w.heap.size+1,0,none⟩ (.string r)).setCell ⟨w.heap.size+1,1,none⟩ (.slice A ss.length D)).setCell ⟨w.heap.size+1,2,none⟩ (.string log)).setCell ⟨w.heap.size+1,3,none⟩ (.int .i64 syn))):=Wy (O.out.trans ((f.out.trans (q.mono f.out.size)).mono O.out.size)) (by omega);clear J;go_wp2
    refine bodyPost_ret (v:=.agg #[.string r,.slice A ss.length D,.string log,.int .i64 syn]) ?_ rfl ⟨_,rfl,a7.out,⟨m.out.os,m.out.tape,m.out.output,m.out.size,m.out.block⟩⟩;rw[av rfl];go_simp
end Go.Proofs.YtjbmgghehdemdaaGreatDoor
