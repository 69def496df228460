/- IBook7 -/
import Derived.Test.YtjbmgghehdemdaaGreatDoorMR17
namespace Go.Proofs.YtjbmgghehdemdaaGreatDoor
set_option maxRecDepth 100000
set_option maxHeartbeats 16000000
open _root_.Go.Proofs.Tryz
open Go.RowKit
theorem Ld {w:World} {B:Nat} {vp:Value} {ss:List ByteArray}(hS:ak w B vp ss) (hz:∀ s ∈ ss,s.size<=1048576) (hl:ss.length<=1048576){ty:TypeId} {pv:Value}(hg:f7 w ty pv) :
  Calls prog 85 #[vp] w fun e w'=>∃ v,e=.returned (.tuple #[v,.bool (ca ss).isSome])/\((∀ gs,ca ss=some gs->∃ vs,bj w' w.heap.size w'.heap.size v gs vs)/\(ca ss=none->v=.slice none 0 0))/\Below w.heap.size w w':=by
 obtain⟨a,c,rfl,hq⟩:=js hS;have HQ:Hid _:=hq;have HZ:=hZ hz;have HG:=hZ hg;have ao:=hg.lt;clear hS hq hz hg;by_cases ab:ss.length<=40
 .have ay:¬ (40:Int)<(ss.length:Int):=by omega
  obtain⟨i1,hi1,ae,af,ah⟩:=info_parts Fu;have aj:Hid (bkF (dp ss 0) (ss.drop 0)=ca ss):=by show _=_;unfold ca;rw[if_pos ab];simp[dp]
  go_enter func85,ntmps85;go_wp2_with fail;go_loopw [4,14] (fun vb i wr=>ax7 w ss vb i wr) (fun _ i _=>ss.length-(intOf i).toNat)
  case atStart=>exact⟨0,_,[],Nat.zero_le _,rfl,bj.nil w _,fun j s hj=>by omega,aj.out,bX⟩
  case round =>
   obtain⟨k,hi,vs,hk,rfl,hN,hC,Z,K⟩:=hrel;by_cases au:k<ss.length
   .obtain⟨s,L⟩:∃ s,ss[k]? = some s:=⟨_,List.getElem?_eq_getElem au⟩
    obtain⟨g,rfl,qc⟩:=HQ.out k s L;have c0:=qc wr K k s L;have aB:=ag c0;have av:(k:Int)<(ss.length:Int):=by omega
    have T:=Vi s wr (HZ.out s (List.mem_of_getElem? L)) (show f7 wr ty pv from (K.cell (p:=⟨6,0,none⟩) ao).trans HG.out);have aH:=yj s;have aI:=HZ.out s (List.mem_of_getElem? L);have o:=hZ L;have u:Hid (bj wr w.heap.size hi _ (dp ss k) vs):=hN;have Q:=hZ hC;have I:=hZ Z;have m:=hZ K;have az:Hid _:=qc;clear L hN hC Z K qc;by_cases A:da s=0
    .rw[A]at T
     have a0:=vu A;obtain⟨x0,aa⟩:∃ x0,(an s)[0]? = some x0:=⟨_,List.getElem?_eq_getElem a0⟩
     have al:Hid (qb (an s)=x0.key):=Se aa;have HX:=hZ aa;have aA:Hid ((an s).length<=1048576):=by show _<=_;omega
     clear aa;go_wp2_with fail;refine T.mono ?_;rintro e b ⟨v2,rfl,U,E⟩;obtain⟨l,q,rfl,q2⟩:=Oy U a0;have d0:b.cell? ⟨l,0,none⟩=some (.string x0.key):=q2 0 x0 HX.out;have aD:=ag d0;have G:=hZ (u.out.below E);have z:=hZ (m.out.trans (E.mono m.out.size));have V:Hid (Rws b wr.heap.size _ _):=U;have F:=hZ E;clear T U E q2;by_cases aq:k=0
     .subst aq
      have HO:Hid (ft (dp ss 0) s=true):=by show _=_;rw[Ew,A];rfl
      go_wp2_with fail;go_quiet (fail)
      have H:=hZ (G.out.below (ii bX nq));have d:Hid (Below w.heap.size w (b.drewN nq)):=ii z.out nq;have am:(b.drewN nq).heap.size=b.heap.size:=rfl;have W:(dp ss 0).length=0:=wu hk;have aw:=d.out.size;have f:=(Below.refl (b.drewN nq).heap.size (b.drewN nq)).alloc bR (.cells #[.slice (some ⟨l,0,none⟩) (an s).length q] 32);have r:=(H.out.below f).row;obtain⟨a1,c1,X,_⟩:=H.out.form;subst X;have R:Hid (Below wr.heap.size wr ((b.drewN nq).alloc (.cells #[.slice (some ⟨l,0,none⟩) (an s).length q] 32))):=(ii F.out nq).alloc F.out.size _
      have M:Hid (Rws ((b.drewN nq).alloc (.cells #[.slice (some ⟨l,0,none⟩) (an s).length q] 32)) wr.heap.size (.slice (some ⟨l,0,none⟩) (an s).length q) (an s)):=(V.out.below (ii bX nq)).below f;go_wp2_with (at_builtin;refine wpList_append_lies _ rfl _ _ 140 rfl w.heap.size 32 i1 (.slice none 0 0) 1 24 underlying140 hi1 ae af ah rfl (by decide) _ _ _ rfl r ⟨_,0,none⟩ 1 1 [.slice (some ⟨l,0,none⟩) (an s).length q] rfl rfl (cell_one_new _ _ _) (fun x hx=>by simp at hx;subst hx;rfl) (by omega) (by unfold maxLen;omega) (by omega) (by simp;omega) _ rfl ?_)
      intro g5 c5 u5 N C a6 a8;have J:=u.out.push m.out.size R.out M.out C N;have P:Below w.heap.size w u5:=Below.grown (d.out.trans (f.mono d.out.size)) C (Nat.le_trans d.out.size f.size) (fun j hj=>(World.ownsRow.lt r j hj).1);have S:bj u5 w.heap.size u5.heap.size (.slice (some ⟨g5,0,none⟩) ((dp ss 0).length+1) c5) (dp ss (0+1)) _:=mg o.out ▸ J;have a5:Hid _:=S;have a2:=hZ P;have a4:Hid (bkF (dp ss (0+1)) (ss.drop (0+1))=ca ss):=by show _=_;rw[<- I.out,Dm o.out HO.out,mg o.out]
      have a3:Hid (∀ j t,j<0+1->ss[j]? = some t->da t=0):=fun j t hj ht=>by
       by_cases a7:j<0
       .exact Q.out j t a7 ht
       .have e1:j=0:=by omega
        subst e1;have e2:=o.out.symm.trans ht;rw[<- Option.some.inj e2];exact A
      clear J P S u m R M C N r f H d G z V F Q I;go_wp2;exact⟨⟨0+1,_,_,by omega,by go_num,a5.out,a3.out,a4.out,a2.out⟩,by simp[intOf];omega⟩
     .obtain⟨j,rfl⟩:∃ j,k=j+1:=⟨k-1,by omega⟩
      obtain⟨y,hy⟩:∃ y,ss[j]? = some y:=⟨_,List.getElem?_eq_getElem (by omega)⟩
      have ai:=vu (Q.out j y (by omega) hy);have ax:(an y).length<=1048576:=by have:=yj y;have:=HZ.out y (List.mem_of_getElem? hy);omega
      obtain⟨vy,a9,hI,_⟩:=G.out.ins j (an y) (ak8 hy (by omega));obtain⟨gy,cy,rfl,qy⟩:=Oy hI ai;obtain⟨xl,ad⟩:∃ xl,(an y)[(an y).length-1]? = some xl:=⟨_,List.getElem?_eq_getElem (by omega)⟩
      have dy:=qy _ xl ad;have Y:=fun n=>Rb (w:=b.drewN n) (c:=cy) ai ax dy
      obtain⟨a1,c1,X,fm⟩:=G.out.form;obtain⟨gb,rfl,_,_,cb,_⟩:=fm j _ a9;have aC:=ag cb;have aE:(((j+1:Nat):Int)-1).toNat=j:=by omega
      have aF:((j+1:Nat):Int)-1=(j:Int):=by omega
      have ap:(dp ss (j+1)).length=j+1:=wu hk;have aG:(j:Int)<((dp ss (j+1)).length:Int):=by omega
      have ac:(0:Int)<((an s).length:Int):=by omega
      have O:=Ev (s:=s) hy;rw[A,al.out,Ss ad]at O
      cases hlk:ltK xl.key x0.key
      .have D:Hid (ca ss=none):=by show _=_;rw[<- I.out];exact Gx o.out (by rw[O,hlk];rfl)
       unfold ltK at hlk;clear O fm qy dy hI a9;subst X;go_wp2_with fail;go_quiet ((go_at_call 121;exact Calls.quiet_of_same (Y _)))
       have d:Hid (Below w.heap.size w (b.drewN nq)):=ii z.out nq;clear Y;go_wp2;go_ret2;rw[D.out];exact⟨_,rfl,⟨fun gs h=>(by cases h),fun _=>rfl⟩,d.out⟩
      .have HO:Hid (ft (dp ss (j+1)) s=true):=by show _=_;rw[O,hlk];rfl
       unfold ltK at hlk;clear O fm qy dy hI a9;subst X;go_wp2_with fail;go_quiet ((go_at_call 121;exact Calls.quiet_of_same (Y _)))
       clear Y;have H:Hid (bj (b.drewN nq) w.heap.size hi _ (dp ss (j+1)) vs):=G.out.below (ii bX nq);have d:Hid (Below w.heap.size w (b.drewN nq)):=ii z.out nq;have am:(b.drewN nq).heap.size=b.heap.size:=rfl;have W:(dp ss (j+1)).length=j+1:=wu hk;have aw:=d.out.size;have f:=(Below.refl (b.drewN nq).heap.size (b.drewN nq)).alloc bR (.cells #[.slice (some ⟨l,0,none⟩) (an s).length q] 32);have r:=(H.out.below f).row;rw[W]at r;have R:Hid (Below wr.heap.size wr ((b.drewN nq).alloc (.cells #[.slice (some ⟨l,0,none⟩) (an s).length q] 32))):=(ii F.out nq).alloc F.out.size _
       have M:Hid (Rws ((b.drewN nq).alloc (.cells #[.slice (some ⟨l,0,none⟩) (an s).length q] 32)) wr.heap.size (.slice (some ⟨l,0,none⟩) (an s).length q) (an s)):=(V.out.below (ii bX nq)).below f;go_wp2_with (at_builtin;refine wpList_append_lies _ rfl _ _ 140 rfl w.heap.size 32 i1 (.slice none 0 0) 1 24 underlying140 hi1 ae af ah rfl (by decide) _ _ _ rfl r ⟨_,0,none⟩ 1 1 [.slice (some ⟨l,0,none⟩) (an s).length q] rfl rfl (cell_one_new _ _ _) (fun x hx=>by simp at hx;subst hx;rfl) (by omega) (by unfold maxLen;omega) (by omega) (by simp;omega) _ rfl ?_)
       intro g5 c5 u5 N C a6 a8;have J:=u.out.push m.out.size R.out M.out C (by rw[W];exact N);rw[mg o.out,W]at J;have P:Below w.heap.size w u5:=Below.grown (d.out.trans (f.mono d.out.size)) C (Nat.le_trans d.out.size f.size) (fun i hj=>(World.ownsRow.lt r i hj).1);have S:bj u5 w.heap.size u5.heap.size (.slice (some ⟨g5,0,none⟩) (j+1+1) c5) (dp ss (j+1+1)) _:=J;have a5:Hid _:=S;have a2:=hZ P;have a4:Hid (bkF (dp ss (j+1+1)) (ss.drop (j+1+1))=ca ss):=by show _=_;rw[<- I.out,Dm o.out HO.out,mg o.out]
       have a3:Hid (∀ i t,i<j+1+1->ss[i]? = some t->da t=0):=fun i t hj ht=>by
        by_cases a7:i<j+1
        .exact Q.out i t a7 ht
        .have e1:i=j+1:=by omega
         subst e1;have e2:=o.out.symm.trans ht;rw[<- Option.some.inj e2];exact A
       clear J P S u m R M C N r f H d G z V F Q I;go_wp2;exact⟨⟨j+1+1,_,_,by omega,by go_num,a5.out,a3.out,a4.out,a2.out⟩,by simp[intOf];omega⟩
    .have D:Hid (ca ss=none):=by show _=_;rw[<- I.out];exact Gx o.out (by unfold ft;rw[decide_eq_false A];rfl)
     generalize da s=cd at *;go_wp2_with fail;refine T.mono ?_;rintro e b ⟨v2,rfl,U,E⟩;have z:=hZ (m.out.trans (E.mono m.out.size));clear T U E;go_wp2;go_ret2;rw[D.out];exact⟨_,rfl,⟨fun gs h=>(by cases h),fun _=>rfl⟩,z.out⟩
   .have ar:k=ss.length:=by omega
    subst ar;have D:Hid (ca ss=some (dp ss ss.length)):=by show _=_;rw[<- Z,Sf]
    have u:Hid (bj wr w.heap.size hi _ (dp ss ss.length) vs):=hN;have m:=hZ K;clear hN K Z hC;go_wp2;go_ret2;rw[D.out];exact⟨_,rfl,⟨fun gs h=>by obtain rfl:=Option.some.inj h;exact⟨_,u.out.high u.out.top bR⟩,fun h=>by cases h⟩,m.out⟩
 .have ay:(40:Int)<(ss.length:Int):=by omega
  have D:Hid (ca ss=none):=by show _=_;unfold ca;rw[if_neg ab]
  go_enter func85,ntmps85;go_wp2;go_ret2;rw[D.out];exact⟨_,rfl,⟨fun gs h=>(by cases h),fun _=>rfl⟩,bX⟩
end Go.Proofs.YtjbmgghehdemdaaGreatDoor
