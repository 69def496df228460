/- SBook6 -/
import Derived.Test.YtjbmgghehdemdaaGreatDoorMP14
import Derived.Test.YtjbmgghehdemdaaGreatDoorMP21
namespace Go.Proofs.YtjbmgghehdemdaaGreatDoor
set_option maxRecDepth 100000
set_option maxHeartbeats 16000000
open _root_.Go.Proofs.Tryz
open Go.RowKit
def E4 (ss:List ByteArray):Nat->ByteArray
 | 0=>⟨#[]⟩
 | j+1=>match ss[j]? with
  | none=>⟨#[]⟩
  | some y=>nl (am y)
theorem Gj {ss:List ByteArray} {j:Nat} {y:ByteArray}(h:ss[j]? = some y):E4 ss (j+1)=nl (am y):=by simp[E4,h]
def b33 (w:World) (ss:List ByteArray) (vb vl i:Value) (wr:World):Prop :=
 ∃ (k hi:Nat) (vs:List Value),k<=ss.length/\i=.int .i64 (k:Int)/\vl=.string (E4 ss k)/\az wr w.heap.size hi vb (dv ss k) vs/\bkF (dv ss k) (ss.drop k)=bz ss/\Below w.heap.size w wr
theorem Tk {w:World} {B:Nat} {vp:Value} {ss:List ByteArray}(hS:aj w B vp ss) (hz:∀ s ∈ ss,s.size<=1048576) (hl:ss.length<=1048576) :
  Calls prog 77 #[vp] w fun e w'=>∃ v,e=.returned (.tuple #[v,.bool (bz ss).isSome])/\(∀ gs,bz ss=some gs->∃ vs,az w' w.heap.size w'.heap.size v gs vs)/\Below w.heap.size w w':=by
 obtain⟨a,c,rfl,hq⟩:=iw hS;have HQ:Hid _:=hq;have HZ:=hZ hz;clear hS hq hz;by_cases a9:ss.length<=40
 .have ap:¬ (40:Int)<(ss.length:Int):=by omega
  obtain⟨i1,hi1,ab,ac,ad⟩:=info_parts Cf;have ae:Hid (bkF (dv ss 0) (ss.drop 0)=bz ss):=by show _=_;unfold bz;rw[if_pos a9];simp[dv]
  go_enter func77,ntmps77;go_wp2_with fail;go_loopw [4,5,15] (fun vb vl i wr=>b33 w ss vb vl i wr) (fun _ _ i _=>ss.length-(intOf i).toNat)
  case atStart=>exact⟨0,_,[],Nat.zero_le _,rfl,rfl,az.nil w _,ae.out,bX⟩
  case round =>
   obtain⟨k,V,vs,hk,rfl,rfl,U,T,Q⟩:=hrel;by_cases al:k<ss.length
   .obtain⟨s,F⟩:∃ s,ss[k]? = some s:=⟨_,List.getElem?_eq_getElem al⟩
    obtain⟨g,rfl,qc⟩:=HQ.out k s F;have c0:=qc wr Q k s F;have aq:=ag c0;have an:(k:Int)<(ss.length:Int):=by omega
    have P:=Qn s wr (HZ.out s (List.mem_of_getElem? F));have ax:=zu s;have ay:=HZ.out s (List.mem_of_getElem? F);have m:=hZ F;have o:Hid (az wr w.heap.size V _ (dv ss k) vs):=U;have D:=hZ T;have l:=hZ Q;clear F U T Q qc;by_cases I:dg s=0
    .rw[I]at P
     have a0:=xo I;have a7:Hid (E4 ss (k+1)=nl (am s)):=Gj m.out;obtain⟨x0,a5⟩:∃ x0,(am s)[0]? = some x0:=⟨_,List.getElem?_eq_getElem a0⟩
     obtain⟨xl,a6⟩:∃ xl,(am s)[(am s).length-1]? = some xl:=⟨_,List.getElem?_eq_getElem (by omega)⟩
     have af:Hid (qu (am s)=x0.key):=Tx a5;have a8:Hid (nl (am s)=xl.key):=Ua a6;have HX:=hZ a5;have ah:=hZ a6;clear a5 a6;have av:((am s).length:Int)-1=(((am s).length-1:Nat):Int):=by omega
     have aw:(((am s).length-1:Nat):Int)<((am s).length:Int):=by omega
     have aa:(0:Int)<((am s).length:Int):=by omega
     go_wp2_with fail;refine P.mono ?_;rintro e f ⟨v2,rfl,G,u⟩;obtain⟨A,z,rfl,q2⟩:=Eq G a0;have d0:f.cell? ⟨A,0,none⟩=some (.string x0.key):=q2 0 x0 HX.out;have dl:=q2 _ xl ah.out;have ar:=ag d0;have R:=hZ (o.out.below u);have p:=hZ (l.out.trans (u.mono l.out.size));have S:Hid (Rws f wr.heap.size _ _):=G;have C:=hZ u;clear P G u q2;by_cases ai:k=0
     .subst ai
      have HO:Hid (ii (dv ss 0) s=true):=by show _=_;rw[Gn,I];rfl
      have q:Hid (az f w.heap.size V _ (dv ss 0) vs):=R.out;have b:=hZ p.out;have J:(dv ss 0).length=0:=yd hk;have ao:=b.out.size;have d:=(Below.refl f.heap.size f).alloc bR (.cells #[.slice (some ⟨A,0,none⟩) (am s).length z] 32);have n:=(q.out.below d).row;obtain⟨a1,c1,Z,_⟩:=q.out.form;subst Z;have N:Hid (Below wr.heap.size wr (f.alloc (.cells #[.slice (some ⟨A,0,none⟩) (am s).length z] 32))):=C.out.alloc C.out.size _;have H:=hZ (S.out.below d)
      go_wp2_with (at_builtin;refine wpList_append_lies _ rfl _ _ 132 rfl w.heap.size 32 i1 (.slice none 0 0) 1 24 underlying132 hi1 ab ac ad rfl (by decide) _ _ _ rfl n ⟨_,0,none⟩ 1 1 [.slice (some ⟨A,0,none⟩) (am s).length z] rfl rfl (cell_one_new _ _ _) (fun x hx=>by simp at hx;subst hx;rfl) (by omega) (by unfold maxLen;omega) (by omega) (by simp;omega) _ rfl ?_)
      intro g5 c5 u5 K r a3 a4;have E:=o.out.push l.out.size N.out H.out r K;have M:Below w.heap.size w u5:=Below.grown (b.out.trans (d.mono b.out.size)) r (Nat.le_trans b.out.size d.size) (fun j hj=>(World.ownsRow.lt n j hj).1);have O:az u5 w.heap.size u5.heap.size (.slice (some ⟨g5,0,none⟩) ((dv ss 0).length+1) c5) (dv ss (0+1)) _:=mw m.out ▸ E;have Y:Hid _:=O;have W:=hZ M;have X:Hid (bkF (dv ss (0+1)) (ss.drop (0+1))=bz ss):=by show _=_;rw[<- D.out,Fa m.out HO.out,mw m.out]
      clear E M O o l N H r K n d q b R p S C D;go_wp2;exact⟨⟨0+1,_,_,by omega,by go_num,(by rw[a7.out,a8.out]),Y.out,X.out,W.out⟩,by simp[intOf];omega⟩
     .obtain⟨j,rfl⟩:∃ j,k=j+1:=⟨k-1,by omega⟩
      obtain⟨y,hy⟩:∃ y,ss[j]? = some y:=⟨_,List.getElem?_eq_getElem (by omega)⟩
      have L:=Gm (s:=s) hy;rw[I,af.out,<- Gj hy]at L;have au:(0:Int)<((j+1:Nat):Int):=by omega
      generalize E4 ss (j+1)=lk at *
      cases hlk:ltK lk x0.key
      .have t:Hid (bz ss=none):=by show _=_;rw[<- D.out];exact Is m.out (by rw[L,hlk];rfl)
       unfold ltK at hlk;clear L;go_wp2_with fail;have b:=hZ p.out;go_ret2;rw[t.out];exact⟨_,rfl,fun gs h=>(by cases h),b.out⟩
      .have HO:Hid (ii (dv ss (j+1)) s=true):=by show _=_;rw[L,hlk];rfl
       unfold ltK at hlk;clear L;have q:Hid (az f w.heap.size V _ (dv ss (j+1)) vs):=R.out;have b:=hZ p.out;have J:(dv ss (j+1)).length=j+1:=yd hk;have ao:=b.out.size;have d:=(Below.refl f.heap.size f).alloc bR (.cells #[.slice (some ⟨A,0,none⟩) (am s).length z] 32);have n:=(q.out.below d).row;obtain⟨a1,c1,Z,_⟩:=q.out.form;subst Z;rw[J]at n;have N:Hid (Below wr.heap.size wr (f.alloc (.cells #[.slice (some ⟨A,0,none⟩) (am s).length z] 32))):=C.out.alloc C.out.size _;have H:=hZ (S.out.below d)
       go_wp2_with (at_builtin;refine wpList_append_lies _ rfl _ _ 132 rfl w.heap.size 32 i1 (.slice none 0 0) 1 24 underlying132 hi1 ab ac ad rfl (by decide) _ _ _ rfl n ⟨_,0,none⟩ 1 1 [.slice (some ⟨A,0,none⟩) (am s).length z] rfl rfl (cell_one_new _ _ _) (fun x hx=>by simp at hx;subst hx;rfl) (by omega) (by unfold maxLen;omega) (by omega) (by simp;omega) _ rfl ?_)
       intro g5 c5 u5 K r a3 a4;have E:=o.out.push l.out.size N.out H.out (by rw[J];exact r) (by rw[J];exact K);rw[mw m.out,J]at E;have M:Below w.heap.size w u5:=Below.grown (b.out.trans (d.mono b.out.size)) r (Nat.le_trans b.out.size d.size) (fun i hj=>(World.ownsRow.lt n i hj).1);have O:az u5 w.heap.size u5.heap.size (.slice (some ⟨g5,0,none⟩) (j+1+1) c5) (dv ss (j+1+1)) _:=E;have Y:Hid _:=O;have W:=hZ M;have X:Hid (bkF (dv ss (j+1+1)) (ss.drop (j+1+1))=bz ss):=by show _=_;rw[<- D.out,Fa m.out HO.out,mw m.out]
       clear E M O o l N H r K n d q b R p S C D;go_wp2;exact⟨⟨j+1+1,_,_,by omega,by go_num,(by rw[a7.out,a8.out]),Y.out,X.out,W.out⟩,by simp[intOf];omega⟩
    .have t:Hid (bz ss=none):=by show _=_;rw[<- D.out];exact Is m.out (by unfold ii;rw[decide_eq_false I];rfl)
     generalize dg s=cd at *;go_wp2_with fail;refine P.mono ?_;rintro e f ⟨v2,rfl,G,u⟩;obtain⟨a2,z,rfl⟩:=cz G;have p:=hZ (l.out.trans (u.mono l.out.size));clear P G u;go_wp2_with fail;have b:=hZ p.out;go_ret2;rw[t.out];exact⟨_,rfl,fun gs h=>(by cases h),b.out⟩
   .have ak:k=ss.length:=by omega
    subst ak;have t:Hid (bz ss=some (dv ss ss.length)):=by show _=_;rw[<- T,Ty]
    have o:Hid (az wr w.heap.size V _ (dv ss ss.length) vs):=U;have l:=hZ Q;clear U Q T;go_wp2;go_ret2;rw[t.out];exact⟨_,rfl,fun gs h=>by obtain rfl:=Option.some.inj h;exact⟨_,o.out.high o.out.top bR⟩,l.out⟩
 .have ap:(40:Int)<(ss.length:Int):=by omega
  have t:Hid (bz ss=none):=by show _=_;unfold bz;rw[if_neg a9]
  go_enter func77,ntmps77;go_wp2;go_ret2;rw[t.out];exact⟨_,rfl,fun gs h=>(by cases h),bX⟩
theorem Mo {w:World} {B:Nat} {vp:Value} {ss:List ByteArray}(hS:aj w B vp ss) (hz:∀ s ∈ ss,s.size<=1048576) (hl:ss.length<=1048576){ty:TypeId} {pv:Value}(hg:fo w ty pv) :
  Calls prog 85 #[vp] w fun e w'=>∃ v,e=.returned (.tuple #[v,.bool (bz ss).isSome])/\((∀ gs,bz ss=some gs->∃ vs,az w' w.heap.size w'.heap.size v gs vs)/\(bz ss=none->v=.slice none 0 0))/\Below w.heap.size w w':=by
 obtain⟨a,c,rfl,hq⟩:=iw hS;have HQ:Hid _:=hq;have HZ:=hZ hz;have HG:=hZ hg;have ao:=hg.lt;clear hS hq hz hg;by_cases ab:ss.length<=40
 .have ay:¬ (40:Int)<(ss.length:Int):=by omega
  obtain⟨i1,hi1,ae,af,ah⟩:=info_parts Cf;have ak:Hid (bkF (dv ss 0) (ss.drop 0)=bz ss):=by show _=_;unfold bz;rw[if_pos ab];simp[dv]
  go_enter func85,ntmps85;go_wp2_with fail;go_loopw [4,14] (fun vb i wr=>b88 w ss vb i wr) (fun _ i _=>ss.length-(intOf i).toNat)
  case atStart=>exact⟨0,_,[],Nat.zero_le _,rfl,az.nil w _,fun j s hj=>by omega,ak.out,bX⟩
  case round =>
   obtain⟨k,hi,vs,hk,rfl,hN,hC,Z,K⟩:=hrel;by_cases au:k<ss.length
   .obtain⟨s,L⟩:∃ s,ss[k]? = some s:=⟨_,List.getElem?_eq_getElem au⟩
    obtain⟨g,rfl,qc⟩:=HQ.out k s L;have c0:=qc wr K k s L;have aC:=ag c0;have av:(k:Int)<(ss.length:Int):=by omega
    have T:=Xb s wr (HZ.out s (List.mem_of_getElem? L)) (show fo wr ty pv from (K.cell (p:=⟨6,0,none⟩) ao).trans HG.out);have aI:=zu s;have aJ:=HZ.out s (List.mem_of_getElem? L);have o:=hZ L;have u:Hid (az wr w.heap.size hi _ (dv ss k) vs):=hN;have Q:=hZ hC;have I:=hZ Z;have m:=hZ K;have aA:Hid _:=qc;clear L hN hC Z K qc;by_cases A:dg s=0
    .rw[A]at T
     have a0:=xo A;obtain⟨x0,aa⟩:∃ x0,(am s)[0]? = some x0:=⟨_,List.getElem?_eq_getElem a0⟩
     have al:Hid (qu (am s)=x0.key):=Tx aa;have HX:=hZ aa;have aB:Hid ((am s).length<=1048576):=by show _<=_;omega
     clear aa;go_wp2_with fail;refine T.mono ?_;rintro e b ⟨v2,rfl,U,E⟩;obtain⟨l,q,rfl,q2⟩:=Eq U a0;have d0:b.cell? ⟨l,0,none⟩=some (.string x0.key):=q2 0 x0 HX.out;have aE:=ag d0;have G:=hZ (u.out.below E);have z:=hZ (m.out.trans (E.mono m.out.size));have V:Hid (Rws b wr.heap.size _ _):=U;have F:=hZ E;clear T U E q2;by_cases aq:k=0
     .subst aq
      have HO:Hid (ii (dv ss 0) s=true):=by show _=_;rw[Gn,A];rfl
      go_wp2_with fail;go_quiet (fail)
      have H:=hZ (G.out.below (gm bX nq));have d:Hid (Below w.heap.size w (b.drewN nq)):=gm z.out nq;have an:(b.drewN nq).heap.size=b.heap.size:=rfl;have W:(dv ss 0).length=0:=yd hk;have aw:=d.out.size;have f:=(Below.refl (b.drewN nq).heap.size (b.drewN nq)).alloc bR (.cells #[.slice (some ⟨l,0,none⟩) (am s).length q] 32);have r:=(H.out.below f).row;obtain⟨a1,c1,X,_⟩:=H.out.form;subst X;have R:Hid (Below wr.heap.size wr ((b.drewN nq).alloc (.cells #[.slice (some ⟨l,0,none⟩) (am s).length q] 32))):=(gm F.out nq).alloc F.out.size _
      have M:Hid (Rws ((b.drewN nq).alloc (.cells #[.slice (some ⟨l,0,none⟩) (am s).length q] 32)) wr.heap.size (.slice (some ⟨l,0,none⟩) (am s).length q) (am s)):=(V.out.below (gm bX nq)).below f;go_wp2_with (at_builtin;refine wpList_append_lies _ rfl _ _ 140 rfl w.heap.size 32 i1 (.slice none 0 0) 1 24 underlying140 hi1 ae af ah rfl (by decide) _ _ _ rfl r ⟨_,0,none⟩ 1 1 [.slice (some ⟨l,0,none⟩) (am s).length q] rfl rfl (cell_one_new _ _ _) (fun x hx=>by simp at hx;subst hx;rfl) (by omega) (by unfold maxLen;omega) (by omega) (by simp;omega) _ rfl ?_)
      intro g5 c5 u5 N C a6 a8;have J:=u.out.push m.out.size R.out M.out C N;have P:Below w.heap.size w u5:=Below.grown (d.out.trans (f.mono d.out.size)) C (Nat.le_trans d.out.size f.size) (fun j hj=>(World.ownsRow.lt r j hj).1);have S:az u5 w.heap.size u5.heap.size (.slice (some ⟨g5,0,none⟩) ((dv ss 0).length+1) c5) (dv ss (0+1)) _:=mw o.out ▸ J;have a5:Hid _:=S;have a2:=hZ P;have a4:Hid (bkF (dv ss (0+1)) (ss.drop (0+1))=bz ss):=by show _=_;rw[<- I.out,Fa o.out HO.out,mw o.out]
      have a3:Hid (∀ j t,j<0+1->ss[j]? = some t->dg t=0):=fun j t hj ht=>by
       by_cases a7:j<0
       .exact Q.out j t a7 ht
       .have e1:j=0:=by omega
        subst e1;have e2:=o.out.symm.trans ht;rw[<- Option.some.inj e2];exact A
      clear J P S u m R M C N r f H d G z V F Q I;go_wp2;exact⟨⟨0+1,_,_,by omega,by go_num,a5.out,a3.out,a4.out,a2.out⟩,by simp[intOf];omega⟩
     .obtain⟨j,rfl⟩:∃ j,k=j+1:=⟨k-1,by omega⟩
      obtain⟨y,hy⟩:∃ y,ss[j]? = some y:=⟨_,List.getElem?_eq_getElem (by omega)⟩
      have ai:=xo (Q.out j y (by omega) hy);have ax:(am y).length<=1048576:=by have:=zu y;have:=HZ.out y (List.mem_of_getElem? hy);omega
      obtain⟨vy,a9,hI,_⟩:=G.out.ins j (am y) (au0 hy (by omega));obtain⟨gy,cy,rfl,qy⟩:=Eq hI ai;obtain⟨xl,ad⟩:∃ xl,(am y)[(am y).length-1]? = some xl:=⟨_,List.getElem?_eq_getElem (by omega)⟩
      have dy:=qy _ xl ad;have Y:=fun n=>Sy (w:=b.drewN n) (c:=cy) ai ax dy
      obtain⟨a1,c1,X,fm⟩:=G.out.form;obtain⟨gb,rfl,_,_,cb,_⟩:=fm j _ a9;have aD:=ag cb;have aF:(((j+1:Nat):Int)-1).toNat=j:=by omega
      have aG:((j+1:Nat):Int)-1=(j:Int):=by omega
      have ap:(dv ss (j+1)).length=j+1:=yd hk;have aH:(j:Int)<((dv ss (j+1)).length:Int):=by omega
      have ac:(0:Int)<((am s).length:Int):=by omega
      have O:=Gm (s:=s) hy;rw[A,al.out,Ua ad]at O
      cases hlk:ltK xl.key x0.key
      .have D:Hid (bz ss=none):=by show _=_;rw[<- I.out];exact Is o.out (by rw[O,hlk];rfl)
       unfold ltK at hlk;clear O fm qy dy hI a9;subst X;go_wp2_with fail;go_quiet ((go_at_call 121;exact Calls.quiet_of_same (Y _)))
       have d:Hid (Below w.heap.size w (b.drewN nq)):=gm z.out nq;clear Y;go_wp2;go_ret2;rw[D.out];exact⟨_,rfl,⟨fun gs h=>(by cases h),fun _=>rfl⟩,d.out⟩
      .have HO:Hid (ii (dv ss (j+1)) s=true):=by show _=_;rw[O,hlk];rfl
       unfold ltK at hlk;clear O fm qy dy hI a9;subst X;go_wp2_with fail;go_quiet ((go_at_call 121;exact Calls.quiet_of_same (Y _)))
       clear Y;have H:Hid (az (b.drewN nq) w.heap.size hi _ (dv ss (j+1)) vs):=G.out.below (gm bX nq);have d:Hid (Below w.heap.size w (b.drewN nq)):=gm z.out nq;have an:(b.drewN nq).heap.size=b.heap.size:=rfl;have W:(dv ss (j+1)).length=j+1:=yd hk;have aw:=d.out.size;have f:=(Below.refl (b.drewN nq).heap.size (b.drewN nq)).alloc bR (.cells #[.slice (some ⟨l,0,none⟩) (am s).length q] 32);have r:=(H.out.below f).row;rw[W]at r;have R:Hid (Below wr.heap.size wr ((b.drewN nq).alloc (.cells #[.slice (some ⟨l,0,none⟩) (am s).length q] 32))):=(gm F.out nq).alloc F.out.size _
       have M:Hid (Rws ((b.drewN nq).alloc (.cells #[.slice (some ⟨l,0,none⟩) (am s).length q] 32)) wr.heap.size (.slice (some ⟨l,0,none⟩) (am s).length q) (am s)):=(V.out.below (gm bX nq)).below f;go_wp2_with (at_builtin;refine wpList_append_lies _ rfl _ _ 140 rfl w.heap.size 32 i1 (.slice none 0 0) 1 24 underlying140 hi1 ae af ah rfl (by decide) _ _ _ rfl r ⟨_,0,none⟩ 1 1 [.slice (some ⟨l,0,none⟩) (am s).length q] rfl rfl (cell_one_new _ _ _) (fun x hx=>by simp at hx;subst hx;rfl) (by omega) (by unfold maxLen;omega) (by omega) (by simp;omega) _ rfl ?_)
       intro g5 c5 u5 N C a6 a8;have J:=u.out.push m.out.size R.out M.out C (by rw[W];exact N);rw[mw o.out,W]at J;have P:Below w.heap.size w u5:=Below.grown (d.out.trans (f.mono d.out.size)) C (Nat.le_trans d.out.size f.size) (fun i hj=>(World.ownsRow.lt r i hj).1);have S:az u5 w.heap.size u5.heap.size (.slice (some ⟨g5,0,none⟩) (j+1+1) c5) (dv ss (j+1+1)) _:=J;have a5:Hid _:=S;have a2:=hZ P;have a4:Hid (bkF (dv ss (j+1+1)) (ss.drop (j+1+1))=bz ss):=by show _=_;rw[<- I.out,Fa o.out HO.out,mw o.out]
       have a3:Hid (∀ i t,i<j+1+1->ss[i]? = some t->dg t=0):=fun i t hj ht=>by
        by_cases a7:i<j+1
        .exact Q.out i t a7 ht
        .have e1:i=j+1:=by omega
         subst e1;have e2:=o.out.symm.trans ht;rw[<- Option.some.inj e2];exact A
       clear J P S u m R M C N r f H d G z V F Q I;go_wp2;exact⟨⟨j+1+1,_,_,by omega,by go_num,a5.out,a3.out,a4.out,a2.out⟩,by simp[intOf];omega⟩
    .have D:Hid (bz ss=none):=by show _=_;rw[<- I.out];exact Is o.out (by unfold ii;rw[decide_eq_false A];rfl)
     generalize dg s=cd at *;go_wp2_with fail;refine T.mono ?_;rintro e b ⟨v2,rfl,U,E⟩;have z:=hZ (m.out.trans (E.mono m.out.size));clear T U E;go_wp2;go_ret2;rw[D.out];exact⟨_,rfl,⟨fun gs h=>(by cases h),fun _=>rfl⟩,z.out⟩
   .have ar:k=ss.length:=by omega
    subst ar;have D:Hid (bz ss=some (dv ss ss.length)):=by show _=_;rw[<- Z,Ty]
    have u:Hid (az wr w.heap.size hi _ (dv ss ss.length) vs):=hN;have m:=hZ K;clear hN K Z hC;go_wp2;go_ret2;rw[D.out];exact⟨_,rfl,⟨fun gs h=>by obtain rfl:=Option.some.inj h;exact⟨_,u.out.high u.out.top bR⟩,fun h=>by cases h⟩,m.out⟩
 .have ay:(40:Int)<(ss.length:Int):=by omega
  have D:Hid (bz ss=none):=by show _=_;unfold bz;rw[if_neg ab]
  go_enter func85,ntmps85;go_wp2;go_ret2;rw[D.out];exact⟨_,rfl,⟨fun gs h=>(by cases h),fun _=>rfl⟩,bX⟩
theorem Dh (r:Int) (h0:0<=r) (h1:r<=1114111) (o:¬ (55296<=r/\r<=57343)) (w:World) (l:dh w 7 jd) :
  Calls prog 189 #[.int .i64 r] w fun e w'=>e=.returned (ig (nc (base r)))/\Below w.heap.size w w':=by
 have b:=(Below.refl w.heap.size w).alloc bR (.cells #[.int .i64 0,.int .i64 0,.int .i64 0,.bool false] 111);have d:Zel (w.alloc (.cells #[.int .i64 0,.int .i64 0,.int .i64 0,.bool false] 111)) w.heap.size:=heap_alloc_new _ _;have W:=K8 r h0 h1 o _ (l.below b l.lt);clear l o h0 h1;rcases Io r with c|⟨e,c⟩|⟨e,f,c⟩
 .rw[c]at W ⊢
  unfold wtV at W;have h:Hid (nc []=none):=rfl;have q:∀ w,(Instr.typeAssert (.iface 274 (.agg #[])) 257 266 true).run prog w=.ok (.tuple #[.agg #[.int .i64 0,.int .i64 0,.int .i64 0,.bool false],.bool false]) w:=fun _=>by kernel_rfl
  clear c;go_enter func189,ntmps189;go_wp2_with fail;refine W.mono ?_;rintro j n ⟨rfl,a⟩;have g:=b.trans (a.mono b.size);obtain⟨i,⟨m,q1,q2,q3⟩,k⟩:=(d.below a).facts;clear W d a b;go_wp2;refine bodyPost_ret (v:=.tuple #[.agg #[.int .i64 0,.int .i64 0,.int .i64 0,.bool false],.bool false]) ?_ rfl ⟨n7 h.out,uh g _ _ _ _ _⟩;rw[results_cell_tmp rfl];go_simp
 .have s:=Vb c
  rw[c]at W ⊢;unfold wtV at W;have q:∀ w,(Instr.typeAssert (.iface 266 (.agg #[.int .i64 e.first,.int .i64 e.second,.int .i64 e.third,.bool e.varies])) 257 266 true).run prog w=.ok (.tuple #[.agg #[.int .i64 e.first,.int .i64 e.second,.int .i64 e.third,.bool e.varies],.bool true]) w:=fun _=>by kernel_rfl
  clear c;by_cases p:0<e.first
  .have h:Hid (nc [e]=some e):=am4 p
   go_enter func189,ntmps189;go_wp2_with fail;refine W.mono ?_;rintro j n ⟨rfl,a⟩;have g:=b.trans (a.mono b.size);obtain⟨i,⟨m,q1,q2,q3⟩,k⟩:=(d.below a).facts;clear W d a b;go_wp2;refine bodyPost_ret (v:=.tuple #[.agg #[.int .i64 e.first,.int .i64 e.second,.int .i64 e.third,.bool e.varies],.bool true]) ?_ rfl ⟨Fi h.out,uh g _ _ _ _ _⟩;rw[results_cell_tmp rfl];go_simp
  .have h:Hid (nc [e]=none):=a79 s p
   go_enter func189,ntmps189;go_wp2_with fail;refine W.mono ?_;rintro j n ⟨rfl,a⟩;have g:=b.trans (a.mono b.size);obtain⟨i,⟨m,q1,q2,q3⟩,k⟩:=(d.below a).facts;clear W d a b;go_wp2;refine bodyPost_ret (v:=.tuple #[.agg #[.int .i64 0,.int .i64 0,.int .i64 0,.bool false],.bool false]) ?_ rfl ⟨n7 h.out,uh g _ _ _ _ _⟩;rw[results_cell_tmp rfl];go_simp
 .rw[c]at W ⊢
  unfold wtV at W;have h:Hid (nc [e,f]=none):=rfl;have q:∀ w,(Instr.typeAssert (.iface 280 (.agg #[.int .i64 e.first,.int .i64 e.second,.int .i64 e.third,.bool e.varies,.int .i64 f.first,.int .i64 f.second,.int .i64 f.third,.bool f.varies])) 257 266 true).run prog w=.ok (.tuple #[.agg #[.int .i64 0,.int .i64 0,.int .i64 0,.bool false],.bool false]) w:=fun _=>by kernel_rfl
  clear c;go_enter func189,ntmps189;go_wp2_with fail;refine W.mono ?_;rintro j n ⟨rfl,a⟩;have g:=b.trans (a.mono b.size);obtain⟨i,⟨m,q1,q2,q3⟩,k⟩:=(d.below a).facts;clear W d a b;go_wp2;refine bodyPost_ret (v:=.tuple #[.agg #[.int .i64 0,.int .i64 0,.int .i64 0,.bool false],.bool false]) ?_ rfl ⟨n7 h.out,uh g _ _ _ _ _⟩;rw[results_cell_tmp rfl];go_simp
theorem Fv {w wr:World}(h:Below w.heap.size w wr) (x y z t:Value) (o:Obj):Below w.heap.size w (((((wr.setCell ⟨w.heap.size+1,0,none⟩ x).setCell ⟨w.heap.size+1,1,none⟩ y).setCell ⟨w.heap.size+1,2,none⟩ z).setCell ⟨w.heap.size+1,3,none⟩ t).alloc o) :=
 (gg h x y z t).alloc (gg h x y z t).size _
theorem Ms {l:List Int}(h:ba l=true):∀ x ∈ l,0<=x/\x<=1114111/\¬ (55296<=x/\x<=57343):=by
 unfold ba at h;rw[Bool.and_eq_true,Bool.and_eq_true]at h;intro x a;have:=kq ((pe h.2.1).2 x a);omega
theorem Kn {w:World} {B B':Nat} {v:Value} {es:List Ent} {sh:Bool} {lv:Int} {vl:Value} {l:List Int}(hE:ac w B v es) (hL:aa w B' vl l) (hn:es.length<=1048576) (hl:l.length<=1048576) (D:∀ e ∈ es,e.runes.length<=1048576) (ht:fd w) :
  Calls prog 167 #[.agg #[v,.bool sh,.int .i64 lv],vl] w fun e w'=>e=.returned (ig (nj es lv l))/\Below w.heap.size w w':=by
 have C:=((Below.refl w.heap.size w).alloc bR (.cells #[v,.bool sh,.int .i64 lv] 56)).alloc (by simp) (.cells #[.int .i64 0,.int .i64 0,.int .i64 0,.bool false] 111);have H:Hid (wl _ _ _ _ _ _):=Nm w v sh lv;have x:Hid _:=C;have L:Hid (ac _ _ _ _):=hE.below C;have Z:Hid (aa _ _ _ _):=hL.below C;have M:Hid (fd _):=ht.below C;have u:=wu (sh:=sh) (lv:=lv) L.out D M.out;clear C hE hL ht
 cases hro:ay es lv
 .rw[hro]at u
  have h:Hid (nj es lv l=none):=by show _=_;unfold nj;rw[if_neg (by simp[hro])]
  clear D L Z M hro;go_enter func167,ntmps167;go_wp2_with fail;refine u.mono ?_;rintro s w2 ⟨rfl,i⟩;have d:=H.out.below i;have b:=x.out.trans (i.mono x.out.size);clear u H x i;obtain⟨⟨R,S⟩,_,⟨T,q1,q2,q3⟩,N⟩:=d.facts;clear d;go_wp2;refine bodyPost_ret (v:=.tuple #[.agg #[.int .i64 0,.int .i64 0,.int .i64 0,.bool false],.bool false]) ?_ rfl ⟨n7 h.out,gg b _ _ _ _⟩;rw[results_cell_tmp rfl];go_simp
 .rw[hro]at u
  go_enter func167,ntmps167;go_wp2_with fail;refine u.mono ?_;rintro s w2 ⟨rfl,i⟩;have I:Hid (wl _ _ _ _ _ _):=H.out.below i;have t:Hid _:=x.out.trans (i.mono x.out.size);have W:Hid (ac _ _ _ _):=L.out.below i;have E:Hid (aa _ _ _ _):=Z.out.below i;have F:Hid (fd _):=M.out.below i;have z:=Ci hl E.out F.out;clear u H x L Z M i
  cases hru:ba l
  .rw[hru]at z
   have h:Hid (nj es lv l=none):=by show _=_;unfold nj;rw[if_neg (by simp[hru])]
   clear D W E F hro hru;go_wp2_with fail;refine z.mono ?_;rintro s w3 ⟨rfl,j⟩;have d:=I.out.below j;have b:=t.out.trans (j.mono t.out.size);clear z I t j;obtain⟨⟨R,S⟩,_,⟨T,q1,q2,q3⟩,N⟩:=d.facts;clear d;go_wp2;refine bodyPost_ret (v:=.tuple #[.agg #[.int .i64 0,.int .i64 0,.int .i64 0,.bool false],.bool false]) ?_ rfl ⟨n7 h.out,gg b _ _ _ _⟩;rw[results_cell_tmp rfl];go_simp
  .rw[hru]at z
   have h:Hid (nj es lv l=gz es l):=by show _=_;unfold nj;rw[if_pos ⟨hro,hru⟩]
   have Q:=Ms hru;have a4:1<=l.length:=by
    unfold ba at hru;rw[Bool.and_eq_true]at hru;exact (of_decide_eq_true hru.1).1
   clear hro hru;go_wp2_with fail;refine z.mono ?_;rintro s w3 ⟨rfl,j⟩;have p:Hid (wl _ _ _ _ _ _):=I.out.below j;have k:Hid _:=t.out.trans (j.mono t.out.size);have m:Hid (aa _ _ _ _):=E.out.below j;have G:Hid (fd _):=F.out.below j;have f:=Dq (W.out.below j) m.out hn hl D;clear z I t W E F j D;obtain⟨_,⟨p0,p1,p2⟩,_,_⟩:=p.out.facts
   cases ho:dp es l with
   | some e =>
    rw[ho]at f;have y:=hZ (h.out.trans (ag8 ho));unfold ig qg elV at f;simp only[Option.getD_some,Option.isSome_some]at f;clear h ho Q m G;go_wp2_with fail;refine f.mono ?_;rintro s A ⟨rfl,b⟩;have d:=p.out.below b;have q:=k.out.trans (b.mono k.out.size);clear f p k b p0 p1 p2;obtain⟨⟨R,S⟩,_,⟨T,q1,q2,q3⟩,N⟩:=d.facts;clear d;go_wp2;refine bodyPost_ret (v:=.tuple #[.agg #[.int .i64 e.first,.int .i64 e.second,.int .i64 e.third,.bool e.varies],.bool true]) ?_ rfl ⟨Fi y.out,Fv q _ _ _ _ _⟩;rw[results_cell_tmp rfl];go_simp
   | none =>
    rw[ho]at f;unfold ig qg elV at f;simp only[Option.getD_none,Option.isSome_none]at f;have P:=Aa ho;clear ho;by_cases O:l.length=1
    .obtain⟨r,rfl⟩:∃ r,l=[r]:=List.length_eq_one_iff.1 O
     obtain⟨g,a2,rfl⟩:=jl m.out (by simp);have y:=hZ (h.out.trans (Ix P));have Y:=Q r (by simp);clear h P Q a4 O hl;simp only[List.length_singleton]at *;go_wp2_with fail;refine f.mono ?_;rintro s A ⟨rfl,b⟩;have J:=(Below.refl A.heap.size A).alloc bR (.cells #[.int .i64 0,.int .i64 0,.int .i64 0,.bool false] 111);have a0:Hid (wl _ _ _ _ _ _):=(p.out.below b).below J;have U:=k.out.trans (b.mono k.out.size);have V:Hid _:=U.trans (J.mono U.size);have c0:A.cell? ⟨g,0,none⟩=some (.int .i64 r):=by
      have h3:=World.ownsRow.cellAt (n:=1) (m.out.below b) 0 (by omega);rw[h3];rfl
     have a3:g<A.heap.size:=(World.ownsRow.lt (m.out.below b) g rfl).2;have K:=Dh r Y.1 Y.2.1 Y.2.2 _ ((G.out.below b).below J).1;clear f p k U b p0 p1 p2 m G J;obtain⟨o,X⟩:∃ o,Hid (nc (base r)=o):=⟨_,rfl⟩
     rw[X.out]at K;have a1:=hZ (y.out.trans X.out);clear y X;unfold ig elV at K;go_wp2_with fail;refine K.mono ?_;rintro s w5 ⟨rfl,q⟩;have d:=a0.out.below q;have b6:=V.out.trans (q.mono V.out.size);clear K a0 V q c0 a3;obtain⟨⟨R,S⟩,_,⟨T,q1,q2,q3⟩,N⟩:=d.facts;clear d;go_wp2;refine bodyPost_ret (v:=ig o) ?_ rfl ⟨by rw[a1.out],gg b6 _ _ _ _⟩;rw[results_cell_tmp rfl];unfold ig elV;go_simp
    .have y:=hZ (h.out.trans (Lh P O))
     obtain⟨a,c,rfl⟩:∃ a c,vl=.slice a l.length c:=by
      rcases m.out.form with ⟨rfl,rfl⟩|⟨g,a2,rfl,_,_⟩
      .exact⟨_,_,rfl⟩
      .exact⟨_,_,rfl⟩
     have h2:(1:Int)<(l.length:Int):=by omega
     clear h P Q m G O;go_wp2_with fail;refine f.mono ?_;rintro s A ⟨rfl,b⟩;have d:=p.out.below b;have q:=k.out.trans (b.mono k.out.size);clear f p k b p0 p1 p2;obtain⟨⟨R,S⟩,_,⟨T,q1,q2,q3⟩,N⟩:=d.facts;clear d;go_wp2;refine bodyPost_ret (v:=.tuple #[.agg #[.int .i64 0,.int .i64 0,.int .i64 0,.bool false],.bool false]) ?_ rfl ⟨n7 y.out,Fv q _ _ _ _ _⟩;rw[results_cell_tmp rfl];go_simp
end Go.Proofs.YtjbmgghehdemdaaGreatDoor
