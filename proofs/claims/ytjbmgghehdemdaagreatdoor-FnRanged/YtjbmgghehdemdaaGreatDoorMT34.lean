/- IBook7 -/
import Derived.Test.YtjbmgghehdemdaaGreatDoorMT24
import Derived.Test.YtjbmgghehdemdaaGreatDoorMT32
import Derived.Test.YtjbmgghehdemdaaGreatDoorMT23
namespace Go.Proofs.YtjbmgghehdemdaaGreatDoor
set_option maxRecDepth 100000
set_option maxHeartbeats 16000000
open _root_.Go.Proofs.Tryz
open Go.RowKit
theorem Ld {w:World} {B:Nat} {vp:Value} {ss:List ByteArray}(hS:ak w B vp ss) (hz:∀ s ∈ ss,s.size≤1048576) (hl:ss.length≤1048576){ty:TypeId} {pv:Value}(hg:f7 w ty pv) :
  Calls prog 85 #[vp] w fun e w'=>∃ v,e=.returned (.tuple #[v,.bool (ca ss).isSome])∧((∀ gs,ca ss=some gs→∃ vs,bj w' w.heap.size w'.heap.size v gs vs)∧(ca ss=none→v=.slice none 0 0))∧Below w.heap.size w w':=by
 obtain⟨a,c,rfl,hq⟩:=js hS;have HQ:Hid _:=hq;have HZ:Hid (∀ s ∈ ss,s.size≤1048576):=hz;have HG:Hid (f7 w ty pv):=hg;have aE:=hg.lt;clear hS hq hz hg;by_cases au:ss.length≤40
 .have aM:¬ (40:Int)<(ss.length:Int):=by omega
  obtain⟨i1,hi1,ax,ay,az⟩:=info_parts Fu;have aB:Hid (bkF (dp ss 0) (ss.drop 0)=ca ss):=by show _=_;unfold ca;rw[if_pos au];simp[dp]
  go_enter func85,ntmps85;go_wp2_with fail;go_loopw [4,14] (fun vb i wr=>ax6 w ss vb i wr) (fun _ i _=>ss.length-(intOf i).toNat)
  case atStart=>exact⟨0,_,[],Nat.zero_le _,rfl,bj.nil w _,fun j s hj=>by omega,aB.out,bX⟩
  case round =>
   obtain⟨k,hi,vs,hk,rfl,hN,hC,hE,hb⟩:=hrel;by_cases aI:k<ss.length
   .obtain⟨s,hs⟩:∃ s,ss[k]? = some s:=⟨_,List.getElem?_eq_getElem aI⟩
    obtain⟨g,rfl,qc⟩:=HQ.out k s hs;have c0:=qc wr hb k s hs;have aP:=ag c0;have aJ:(k:Int)<(ss.length:Int):=by omega
    have RD:=Vh s wr (HZ.out s (List.mem_of_getElem? hs)) (show f7 wr ty pv from (hb.cell (p:=⟨6,0,none⟩) aE).trans HG.out);have aV:=yj s;have aW:=HZ.out s (List.mem_of_getElem? hs);have HS:Hid (ss[k]? = some s):=hs;have HN:Hid (bj wr w.heap.size hi _ (dp ss k) vs):=hN;have HC:Hid (∀ j s,j<k→ss[j]? = some s→da s=0):=hC;have HE:Hid (bkF (dp ss k) (ss.drop k)=ca ss):=hE;have HB:Hid (Below w.heap.size w wr):=hb;have aN:Hid _:=qc;clear hs hN hC hE hb qc;by_cases a5:da s=0
    .rw[a5]at RD
     have ac:=vu a5;obtain⟨x0,ar⟩:∃ x0,(an s)[0]? = some x0:=⟨_,List.getElem?_eq_getElem ac⟩
     have aC:Hid (qb (an s)=x0.key):=Se ar;have HX:Hid ((an s)[0]? = some x0):=ar;have aO:Hid ((an s).length≤1048576):=by show _≤_;omega
     clear ar;go_wp2_with fail;refine RD.mono ?_;rintro e w2 ⟨v2,rfl,r2,b2⟩;obtain⟨g2,c2,rfl,q2⟩:=Oy r2 ac;have d0:w2.cell? ⟨g2,0,none⟩=some (.string x0.key):=q2 0 x0 HX.out;have aR:=ag d0;have a8:Hid (bj w2 w.heap.size hi u4 (dp ss k) vs):=HN.out.below b2;have a4:Hid (Below w.heap.size w w2):=HB.out.trans (b2.mono HB.out.size);have ad:Hid (Rws w2 wr.heap.size _ _):=r2;have a7:Hid (Below wr.heap.size wr w2):=b2;clear RD r2 b2 q2;by_cases aG:k=0
     .subst aG
      have HO:Hid (ft (dp ss 0) s=true):=by show _=_;rw[Ew,a5];rfl
      go_wp2_with fail;go_quiet (fail)
      have a9:Hid (bj (w2.drewN nq) w.heap.size hi u4 (dp ss 0) vs):=a8.out.below (ii bX nq);have a2:Hid (Below w.heap.size w (w2.drewN nq)):=ii a4.out nq;have aD:(w2.drewN nq).heap.size=w2.heap.size:=rfl;have ae:(dp ss 0).length=0:=wu hk;have aK:=a2.out.size;have bA:=(Below.refl (w2.drewN nq).heap.size (w2.drewN nq)).alloc bR (.cells #[.slice (some ⟨g2,0,none⟩) (an s).length c2] 32);have a0:=(a9.out.below bA).row;obtain⟨a1,c1,af,_⟩:=a9.out.form;subst af;have HU:Hid (Below wr.heap.size wr ((w2.drewN nq).alloc (.cells #[.slice (some ⟨g2,0,none⟩) (an s).length c2] 32))):=(ii a7.out nq).alloc a7.out.size _
      have a3:Hid (Rws ((w2.drewN nq).alloc (.cells #[.slice (some ⟨g2,0,none⟩) (an s).length c2] 32)) wr.heap.size (.slice (some ⟨g2,0,none⟩) (an s).length c2) (an s)):=(ad.out.below (ii bX nq)).below bA;go_wp2_with (at_builtin;refine wpList_append_lies _ rfl _ _ 140 rfl w.heap.size 32 i1 (.slice none 0 0) 1 24 underlying140 hi1 ax ay az rfl (by decide) _ _ _ rfl a0 ⟨_,0,none⟩ 1 1 [.slice (some ⟨g2,0,none⟩) (an s).length c2] rfl rfl (cell_one_new _ _ _) (fun x hx=>by simp at hx;subst hx;rfl) (by omega) (by unfold maxLen;omega) (by omega) (by simp;omega) _ rfl ?_)
      intro g5 c5 u5 aa a6 am ap;have N5:=HN.out.push HB.out.size HU.out a3.out a6 aa;have B5:Below w.heap.size w u5:=Below.grown (a2.out.trans (bA.mono a2.out.size)) a6 (Nat.le_trans a2.out.size bA.size) (fun j hj=>(World.ownsRow.lt a0 j hj).1);have NN:bj u5 w.heap.size u5.heap.size (.slice (some ⟨g5,0,none⟩) ((dp ss 0).length+1) c5) (dp ss (0+1)) _:=mg HS.out ▸ N5;have al:Hid _:=NN;have ah:Hid (Below w.heap.size w u5):=B5;have aj:Hid (bkF (dp ss (0+1)) (ss.drop (0+1))=ca ss):=by show _=_;rw[<- HE.out,Dm HS.out HO.out,mg HS.out]
      have ai:Hid (∀ j t,j<0+1→ss[j]? = some t→da t=0):=fun j t hj ht=>by
       by_cases ao:j<0
       .exact HC.out j t ao ht
       .have e1:j=0:=by omega
        subst e1;have e2:=HS.out.symm.trans ht;rw[<- Option.some.inj e2];exact a5
      clear N5 B5 NN HN HB HU a3 a6 aa a0 bA a9 a2 a8 a4 ad a7 HC HE;go_wp2;exact⟨⟨0+1,_,_,by omega,by go_num,al.out,ai.out,aj.out,ah.out⟩,by simp[intOf];omega⟩
     .obtain⟨j,rfl⟩:∃ j,k=j+1:=⟨k-1,by omega⟩
      obtain⟨y,hy⟩:∃ y,ss[j]? = some y:=⟨_,List.getElem?_eq_getElem (by omega)⟩
      have aA:=vu (HC.out j y (by omega) hy);have aL:(an y).length≤1048576:=by have:=yj y;have:=HZ.out y (List.mem_of_getElem? hy);omega
      obtain⟨vy,aq,hI,_⟩:=a8.out.ins j (an y) (ak7 hy (by omega));obtain⟨gy,cy,rfl,qy⟩:=Oy hI aA;obtain⟨xl,aw⟩:∃ xl,(an y)[(an y).length-1]? = some xl:=⟨_,List.getElem?_eq_getElem (by omega)⟩
      have dy:=qy _ xl aw;have LK:=fun n=>Rb (w:=w2.drewN n) (c:=cy) aA aL dy
      obtain⟨a1,c1,af,fm⟩:=a8.out.form;obtain⟨gb,rfl,_,_,cb,_⟩:=fm j _ aq;have aQ:=ag cb;have aS:(((j+1:Nat):Int)-1).toNat=j:=by omega
      have aT:((j+1:Nat):Int)-1=(j:Int):=by omega
      have aF:(dp ss (j+1)).length=j+1:=wu hk;have aU:(j:Int)<((dp ss (j+1)).length:Int):=by omega
      have av:(0:Int)<((an s).length:Int):=by omega
      have ab:=Ev (s:=s) hy;rw[a5,aC.out,Ss aw]at ab
      cases hlk:ltK xl.key x0.key
      .have HF:Hid (ca ss=none):=by show _=_;rw[<- HE.out];exact Gx HS.out (by rw[ab,hlk];rfl)
       unfold ltK at hlk;clear ab fm qy dy hI aq;subst af;go_wp2_with fail;go_quiet ((go_at_call 121;exact Calls.quiet_of_same (LK _)))
       have a2:Hid (Below w.heap.size w (w2.drewN nq)):=ii a4.out nq;clear LK;go_wp2;go_ret2;rw[HF.out];exact⟨_,rfl,⟨fun gs h=>(by cases h),fun _=>rfl⟩,a2.out⟩
      .have HO:Hid (ft (dp ss (j+1)) s=true):=by show _=_;rw[ab,hlk];rfl
       unfold ltK at hlk;clear ab fm qy dy hI aq;subst af;go_wp2_with fail;go_quiet ((go_at_call 121;exact Calls.quiet_of_same (LK _)))
       clear LK;have a9:Hid (bj (w2.drewN nq) w.heap.size hi _ (dp ss (j+1)) vs):=a8.out.below (ii bX nq);have a2:Hid (Below w.heap.size w (w2.drewN nq)):=ii a4.out nq;have aD:(w2.drewN nq).heap.size=w2.heap.size:=rfl;have ae:(dp ss (j+1)).length=j+1:=wu hk;have aK:=a2.out.size;have bA:=(Below.refl (w2.drewN nq).heap.size (w2.drewN nq)).alloc bR (.cells #[.slice (some ⟨g2,0,none⟩) (an s).length c2] 32);have a0:=(a9.out.below bA).row;rw[ae]at a0;have HU:Hid (Below wr.heap.size wr ((w2.drewN nq).alloc (.cells #[.slice (some ⟨g2,0,none⟩) (an s).length c2] 32))):=(ii a7.out nq).alloc a7.out.size _
       have a3:Hid (Rws ((w2.drewN nq).alloc (.cells #[.slice (some ⟨g2,0,none⟩) (an s).length c2] 32)) wr.heap.size (.slice (some ⟨g2,0,none⟩) (an s).length c2) (an s)):=(ad.out.below (ii bX nq)).below bA;go_wp2_with (at_builtin;refine wpList_append_lies _ rfl _ _ 140 rfl w.heap.size 32 i1 (.slice none 0 0) 1 24 underlying140 hi1 ax ay az rfl (by decide) _ _ _ rfl a0 ⟨_,0,none⟩ 1 1 [.slice (some ⟨g2,0,none⟩) (an s).length c2] rfl rfl (cell_one_new _ _ _) (fun x hx=>by simp at hx;subst hx;rfl) (by omega) (by unfold maxLen;omega) (by omega) (by simp;omega) _ rfl ?_)
       intro g5 c5 u5 aa a6 am ap;have N5:=HN.out.push HB.out.size HU.out a3.out a6 (by rw[ae];exact aa);rw[mg HS.out,ae]at N5;have B5:Below w.heap.size w u5:=Below.grown (a2.out.trans (bA.mono a2.out.size)) a6 (Nat.le_trans a2.out.size bA.size) (fun i hj=>(World.ownsRow.lt a0 i hj).1);have NN:bj u5 w.heap.size u5.heap.size (.slice (some ⟨g5,0,none⟩) (j+1+1) c5) (dp ss (j+1+1)) _:=N5;have al:Hid _:=NN;have ah:Hid (Below w.heap.size w u5):=B5;have aj:Hid (bkF (dp ss (j+1+1)) (ss.drop (j+1+1))=ca ss):=by show _=_;rw[<- HE.out,Dm HS.out HO.out,mg HS.out]
       have ai:Hid (∀ i t,i<j+1+1→ss[i]? = some t→da t=0):=fun i t hj ht=>by
        by_cases ao:i<j+1
        .exact HC.out i t ao ht
        .have e1:i=j+1:=by omega
         subst e1;have e2:=HS.out.symm.trans ht;rw[<- Option.some.inj e2];exact a5
       clear N5 B5 NN HN HB HU a3 a6 aa a0 bA a9 a2 a8 a4 ad a7 HC HE;go_wp2;exact⟨⟨j+1+1,_,_,by omega,by go_num,al.out,ai.out,aj.out,ah.out⟩,by simp[intOf];omega⟩
    .have HF:Hid (ca ss=none):=by show _=_;rw[<- HE.out];exact Gx HS.out (by unfold ft;rw[decide_eq_false a5];rfl)
     generalize da s=cd at *;go_wp2_with fail;refine RD.mono ?_;rintro e w2 ⟨v2,rfl,r2,b2⟩;have a4:Hid (Below w.heap.size w w2):=HB.out.trans (b2.mono HB.out.size);clear RD r2 b2;go_wp2;go_ret2;rw[HF.out];exact⟨_,rfl,⟨fun gs h=>(by cases h),fun _=>rfl⟩,a4.out⟩
   .have aH:k=ss.length:=by omega
    subst aH;have HF:Hid (ca ss=some (dp ss ss.length)):=by show _=_;rw[<- hE,Sf]
    have HN:Hid (bj wr w.heap.size hi _ (dp ss ss.length) vs):=hN;have HB:Hid (Below w.heap.size w wr):=hb;clear hN hb hE hC;go_wp2;go_ret2;rw[HF.out];exact⟨_,rfl,⟨fun gs h=>by obtain rfl:=Option.some.inj h;exact⟨_,HN.out.high HN.out.top bR⟩,fun h=>by cases h⟩,HB.out⟩
 .have aM:(40:Int)<(ss.length:Int):=by omega
  have HF:Hid (ca ss=none):=by show _=_;unfold ca;rw[if_neg au]
  go_enter func85,ntmps85;go_wp2;go_ret2;rw[HF.out];exact⟨_,rfl,⟨fun gs h=>(by cases h),fun _=>rfl⟩,bX⟩
theorem am2 (t:List UInt8) (ht:t.length≤1048576) (w:World) :
  Calls prog 164 #[.string ⟨t.toArray⟩,.string ⟨#[32]⟩] w fun e w'=>∃ b,e=.returned (.tuple #[.string ⟨(Ag t).1.toArray⟩,.string ⟨(Ag t).2.toArray⟩,.bool b])∧∃ n,w'=w.drewN n:=by
 have A:=fun w=>Rd t ht w
 generalize (⟨(Ag t).1.toArray⟩:ByteArray)=x1 at *;generalize (⟨(Ag t).2.toArray⟩:ByteArray)=x2 at *;generalize (⟨t.toArray⟩:ByteArray)=s at *;go_enter func164,ntmps164;go_wp2_with fail;refine (A _).mono ?_;rintro e w1 ⟨bb,rfl,n,rfl⟩;clear A;go_wp2;go_ret3
 exact⟨_,rfl,n,rfl⟩
theorem RdM.drewN {w u:World} {b T:Nat} {l:List UInt8} {st:RS} {vE:Value}(h:RdM w u b T l st vE) (n:Nat):RdM w (u.drewN n) b T l st vE:=h.step (below_drewN bX n)
theorem vt {w u:World} {b T:Nat} {l:List UInt8} {st:RS} {vE:Value}(h:RdM w u b T l st vE) (hl:l.length≤1048576) :
  Calls prog 142 #[.pointer (some ⟨b,0,none⟩)] u fun e u'=>e=.returned (.string (wdB l))∧RdM w u' b T (wdR l) st vE:=by
 have A:=fun w=>ai7 l w
 have C:=fun w=>am2 (l.dropWhile (· == 32)) (Nat.le_trans (List.dropWhile_sublist (fun x=>x == 32)).length_le hl) w
 rw[<- a02]at C;have HM:Hid _:=h;obtain⟨c0,_,_,_,_,_,_,_,_,fz⟩:=h.cells;have a3:=h.lt;have HS:Hid (∀ n,RdM w ((u.drewN n).setCell ⟨b,0,none⟩ (.string ⟨(dn l).2.toArray⟩)) b T (dn l).2 st vE):=fun n=>(HM.out.drewN n).set (l':=(dn l).2) (st':=st) (vE':=vE) rfl rfl rfl
 unfold wdB wdR;generalize (⟨(dn l).1.toArray⟩:ByteArray)=x1 at *;have a1:Hid (∀ n x,x=(⟨(dn l).2.toArray⟩:ByteArray)→RdM w ((u.drewN n).setCell ⟨b,0,none⟩ (.string x)) b T (dn l).2 st vE):=fun n x hx=>by rw[hx];exact HS.out n
 obtain⟨x2,a0⟩:∃ x2,x2=(⟨(dn l).2.toArray⟩:ByteArray):=⟨_,rfl⟩
 rw[<- a0]at C;have a2:Hid (∀ n,RdM w ((u.drewN n).setCell ⟨b,0,none⟩ (.string x2)) b T (dn l).2 st vE):=fun n=>a1.out n x2 a0
 clear HS a1 a0 HM h;generalize (⟨(l.dropWhile (· == 32)).toArray⟩:ByteArray)=x3 at *;generalize (⟨l.toArray⟩:ByteArray)=x4 at *;go_enter func142,ntmps142;go_wp2_with fail;refine (A _).mono ?_;rintro e w1 ⟨rfl,rfl⟩;clear A;go_wp2_with fail;refine (C _).mono ?_;rintro e w2 ⟨bb,rfl,n,rfl⟩;clear C;go_wp2;go_ret;exact⟨rfl,a2.out n⟩
def jR (x:ByteArray):List Int:=if jOk x=true then nD (Dec.decT x.size x).1 else []
theorem an8 {x:ByteArray}(h:ok4 x=true):jOk x=bd (rn4 x):=by
 unfold jOk;rw[decide_eq_true (of_decide_eq_true h).1,Bool.true_and];rfl
theorem au4 {x:ByteArray}(h:ok4 x=false):jOk x=false:=by
 unfold jOk;by_cases c:x.size≤200
 .rw[decide_eq_true c,Bool.true_and]
  cases d:bd (nD (Dec.decT x.size x).1)
  .rfl
  .have:=eg d
   exact absurd ⟨c,by unfold rn4;omega⟩ (of_decide_eq_false h)
 .rw[decide_eq_false c,Bool.false_and]
theorem Er (x:ByteArray) (hx:x.size≤1048576) (u:World) (ht:dr u) :
  Calls prog 166 #[.string x] u fun e u'=>∃ v,e=.returned (.tuple #[v,.bool (jOk x)])∧ab u' u.heap.size v (jR x)∧Below u.heap.size u u':=by
 have A:=fun w=>Gl x hx w
 have hl:=Xr x;unfold jR
 cases h:ok4 x
 .rw[au4 h]
  have A1:=A u ht;rw[h]at A1;simp only[Bool.false_eq_true,if_false];clear A h ht;go_enter func166,ntmps166;go_wp2_with fail;refine A1.mono ?_;rintro e w1 ⟨v1,rfl,i1,b1⟩;clear A1;go_wp2;go_ret2;exact⟨_,rfl,⟨rfl,.inl ⟨rfl,rfl⟩⟩,b1⟩
 .have A1:=A u ht
  have hr:aR x=rn4 x:=by unfold aR;rw[h];rfl
  rw[an8 h];rw[h,hr]at A1;rw[hr]at hl;change Calls prog 166 #[.string x] u fun e u'=>∃ v,e=.returned (.tuple #[v,.bool (bd (rn4 x))])∧ab u' u.heap.size v (if bd (rn4 x)=true then rn4 x else [])∧Below u.heap.size u u'
  generalize rn4 x=r at *;have J:=fun (u':World) (v:Value) (B:Nat) (hb:Below u.heap.size u u') (hI:ab u' B v r)=>Au (by omega) hI (ht.below hb)
  clear A h hr ht
  cases hr:bd r
  .rw[hr]at J
   simp only[Bool.false_eq_true,if_false];go_enter func166,ntmps166;go_wp2_with fail;refine A1.mono ?_;rintro e w1 ⟨v1,rfl,i1,b1⟩;have J1:=J _ _ _ b1 i1;clear A1 J;go_wp2_with fail;refine J1.mono ?_;rintro e w3 ⟨rfl,b4⟩;clear J1;go_wp2;go_ret2;exact⟨_,rfl,⟨rfl,.inl ⟨rfl,rfl⟩⟩,b1.trans (b4.mono b1.size)⟩
  .rw[hr]at J
   simp only[if_true];go_enter func166,ntmps166;go_wp2_with fail;refine A1.mono ?_;rintro e w1 ⟨v1,rfl,i1,b1⟩;have J1:=J _ _ _ b1 i1;clear A1 J;go_wp2_with fail;refine J1.mono ?_;rintro e w3 ⟨rfl,b4⟩;clear J1;have i3:=i1.below b4;go_wp2;go_ret2;exact⟨_,rfl,i3,b1.trans (b4.mono b1.size)⟩
theorem ac5 (st:RS) (x:ByteArray):si st x=if (x.toList == [49,93])=true then .ok { st with lv:=1 } else if (x.toList == [50,93])=true then .ok { st with lv:=2 } else if (x.toList == [51,93])=true then .ok { st with lv:=3 } else if (x.toList == [52,93])=true then .ok { st with lv:=4 } else .error 2:=by
 unfold si;rw[ac1];repeat' split
 all_goals simp_all
def Out (w u':World) (b:Nat) (l:List UInt8) (r:Except Int RS) (c:Int):Prop:=(r=.error c∧c≠0∧Below b w u')∨∃ st T vE,r=.ok st∧c=0∧RdM w u' b T l st vE
theorem Vr {w u:World} {b T:Nat} {l:List UInt8} {st:RS} {vE:Value}(h:RdM w u b T l st vE) (hl:l.length≤1048576) :
  Calls prog 143 #[.pointer (some ⟨b,0,none⟩)] u fun e u'=>∃ c,e=.returned (.int .i64 c)∧Out w u' b (wdR l) (si st (wdB l)) c:=by
 have NW:=vt h hl;have HR:Hid (si st (wdB l)=if ((wdB l).toList == [49,93])=true then .ok { st with lv:=1 } else if ((wdB l).toList == [50,93])=true then .ok { st with lv:=2 } else if ((wdB l).toList == [51,93])=true then .ok { st with lv:=3 } else if ((wdB l).toList == [52,93])=true then .ok { st with lv:=4 } else .error 2):=ac5 st (wdB l);clear h;generalize si st (wdB l)=R at *;generalize wdB l=x at *;generalize wdR l=l2 at *;by_cases c1:(x.toList == [49,93])=true
 .have a0:Hid (R=.ok { st with lv:=1 }):=HR.out.trans (by rw[if_pos c1])
  clear HR;go_enter func143,ntmps143;go_wp2_with fail;refine NW.mono ?_;rintro e u1 ⟨rfl,hm⟩;have HS:Hid (RdM w (u1.setCell ⟨b,3,none⟩ (.int .i64 1)) b T l2 { st with lv:=1 } vE):=hm.set rfl rfl rfl;obtain⟨_,_,_,c3,_,_,_,_,_,fz⟩:=hm.cells;have a1:=hm.lt;clear NW hm;go_wp2;go_ret;exact⟨0,rfl,.inr ⟨_,_,_,a0.out,rfl,HS.out⟩⟩
 .have a4:(x.toList == [49,93])=false:=by simpa using c1
  by_cases c2:(x.toList == [50,93])=true
  .have a0:Hid (R=.ok { st with lv:=2 }):=HR.out.trans (by rw[if_neg c1,if_pos c2])
   clear HR c1;go_enter func143,ntmps143;go_wp2_with fail;refine NW.mono ?_;rintro e u1 ⟨rfl,hm⟩;have HS:Hid (RdM w (u1.setCell ⟨b,3,none⟩ (.int .i64 2)) b T l2 { st with lv:=2 } vE):=hm.set rfl rfl rfl;obtain⟨_,_,_,c3,_,_,_,_,_,fz⟩:=hm.cells;have a1:=hm.lt;clear NW hm;go_wp2;go_ret;exact⟨0,rfl,.inr ⟨_,_,_,a0.out,rfl,HS.out⟩⟩
  .have a5:(x.toList == [50,93])=false:=by simpa using c2
   by_cases c3:(x.toList == [51,93])=true
   .have a0:Hid (R=.ok { st with lv:=3 }):=HR.out.trans (by rw[if_neg c1,if_neg c2,if_pos c3])
    clear HR c1 c2;go_enter func143,ntmps143;go_wp2_with fail;refine NW.mono ?_;rintro e u1 ⟨rfl,hm⟩;have HS:Hid (RdM w (u1.setCell ⟨b,3,none⟩ (.int .i64 3)) b T l2 { st with lv:=3 } vE):=hm.set rfl rfl rfl;obtain⟨_,_,_,a2,_,_,_,_,_,fz⟩:=hm.cells;have a1:=hm.lt;clear NW hm;go_wp2;go_ret;exact⟨0,rfl,.inr ⟨_,_,_,a0.out,rfl,HS.out⟩⟩
   .have a2:(x.toList == [51,93])=false:=by simpa using c3
    by_cases c4:(x.toList == [52,93])=true
    .have a0:Hid (R=.ok { st with lv:=4 }):=HR.out.trans (by rw[if_neg c1,if_neg c2,if_neg c3,if_pos c4])
     clear HR c1 c2 c3;go_enter func143,ntmps143;go_wp2_with fail;refine NW.mono ?_;rintro e u1 ⟨rfl,hm⟩;have HS:Hid (RdM w (u1.setCell ⟨b,3,none⟩ (.int .i64 4)) b T l2 { st with lv:=4 } vE):=hm.set rfl rfl rfl;obtain⟨_,_,_,a3,_,_,_,_,_,fz⟩:=hm.cells;have a1:=hm.lt;clear NW hm;go_wp2;go_ret;exact⟨0,rfl,.inr ⟨_,_,_,a0.out,rfl,HS.out⟩⟩
    .have a6:(x.toList == [52,93])=false:=by simpa using c4
     have a0:Hid (R=.error 2):=HR.out.trans (by rw[if_neg c1,if_neg c2,if_neg c3,if_neg c4]);clear HR c1 c2 c3 c4;go_enter func143,ntmps143;go_wp2_with fail;refine NW.mono ?_;rintro e u1 ⟨rfl,hm⟩;have HB:Hid _:=hm.be;clear NW hm;go_wp2;go_ret;exact⟨2,rfl,.inl ⟨a0.out,by decide,HB.out⟩⟩
theorem Pp (l:List UInt8):(wdB l).size≤l.length∧(wdR l).length≤l.length:=⟨(Hu l).1,(Hu l).2⟩
theorem Ys {es:List Ent} {lv:Int} {l:List Int}(h1:ay es lv=true) (h2:bd l=true):mr es lv l=fj es l:=by
 unfold mr;rw[if_pos ⟨h1,h2⟩]
theorem Wa {st:RS} {l:List Int}(h:bd l=true) (h2:fj st.es l=none):d8 st 0 l=.error 3:=by
 unfold d8;rw[if_neg (by simp[h]),if_pos rfl,h2]
theorem a16 {st:RS} {l:List Int} {e:El}(h:bd l=true) (h2:fj st.es l=some e) (h3:e.varies=true):d8 st 0 l=.error 3:=by
 unfold d8;rw[if_neg (by simp[h]),if_pos rfl,h2];simp only;rw[if_pos h3]
theorem Rj {st:RS} {l:List Int} {e:El}(h:bd l=true) (h2:fj st.es l=some e) (h3:e.varies=false):d8 st 0 l=.ok { st with last:=e,reset:=true }:=by
 unfold d8;rw[if_neg (by simp[h]),if_pos rfl,h2];simp only;rw[if_neg (by simp[h3])]
theorem gj.len {st:RS}(h:gj st):st.es.length≤1048576∧∀ e ∈ st.es,e.runes.length≤1048576:=by
 obtain⟨h1,_,h3⟩:=cg h.good;exact⟨by omega,fun e he=>Nat.le_trans (eg (h3 e he).1) (by omega)⟩
theorem a25 {w u:World} {b T:Nat} {l:List UInt8} {st:RS} {vE:Value}(h:RdM w u b T l st vE) (hl:l.length≤1048576) (hi:gj st) :
  Calls prog 144 #[.pointer (some ⟨b,0,none⟩)] u fun e u'=>∃ c,e=.returned (.int .i64 c)∧Out w u' b (wdR l) (nc st 0 (wdB l)) c:=by
 have NW:=vt h hl;have hx:(wdB l).size≤1048576:=Nat.le_trans (Pp l).1 hl;have HI:Hid (gj st):=hi;have a3:=hi.len;have HN:Hid (jOk (wdB l)=false→nc st 0 (wdB l)=.error 2):=fun c=>J4 c
 have HY:Hid (jOk (wdB l)=true→nc st 0 (wdB l)=d8 st 0 (jR (wdB l))∧bd (jR (wdB l))=true):=fun c=>by
  have e:jR (wdB l)=nD (Dec.decT (wdB l).size (wdB l)).1:=by unfold jR;rw[if_pos c]
  rw[e];refine⟨Oj c,?_⟩;unfold jOk at c;rw[Bool.and_eq_true]at c;exact c.2
 clear h hi;generalize nc st 0 (wdB l)=R at *;generalize wdR l=l2 at *;have JR:=fun (u:World) (ht:dr u)=>Er (wdB l) hx u ht
 generalize jR (wdB l)=r at *;generalize hj:jOk (wdB l)=jo at *;generalize wdB l=x at *;clear hj
 cases jo
 .have HE:Hid (R=.error 2):=HN.out rfl
  clear HN HY;go_enter func144,ntmps144;go_wp2_with fail;refine NW.mono ?_;rintro e u1 ⟨rfl,hm⟩;clear NW;have J1:=JR _ hm.tab;have HM:Hid _:=hm;clear JR hm;go_wp2_with fail;refine J1.mono ?_;rintro e u2 ⟨v2,rfl,i2,b2⟩;have HB:Hid (Below _ _ _):=(HM.out.step b2).be;clear J1 HM;go_wp2;go_ret;exact⟨2,rfl,.inl ⟨HE.out,by decide,HB.out⟩⟩
 .obtain⟨hp,hro⟩:=HY.out rfl
  have a7:=eg hro;clear HN HY;go_enter func144,ntmps144;go_wp2_with fail;refine NW.mono ?_;rintro e u1 ⟨rfl,hm⟩;clear NW;have J1:=JR _ hm.tab;have HM:Hid _:=hm;clear JR hm;go_wp2_with fail;refine J1.mono ?_;rintro e u2 ⟨v2,rfl,i2,b2⟩;have a1:=HM.out.step b2;have E:=Iw (sh:=st.sh) (lv:=st.lv) a1.en.ents i2 a3.1 (by omega) a3.2 a1.tab;rw[Ys HI.out.good hro]at E;obtain⟨c0,c1,c2,c3,c4,c5,c6,c7,c8,fz⟩:=a1.cells;have a4:=a1.lt;have a0:Hid _:=a1;clear J1 HM a1 i2 b2
  cases ho:fj st.es r with
  | none =>
   rw[ho]at E;have HE:Hid (R=.error 3):=hp.trans (Wa hro ho);unfold fo ph elV at E;simp only[Option.getD_none,Option.isSome_none]at E;clear hp ho hro;go_wp2_with fail;refine E.mono ?_;rintro e u3 ⟨rfl,b3⟩;have HB:Hid (Below _ _ _):=((a0.out.step b3).step ((Below.refl u3.heap.size u3).alloc bR (.cells #[.int .i64 0,.int .i64 0,.int .i64 0,.bool false] 111))).be;clear E a0 c0 c1 c2 c3 c4 c5 c6 c7 c8 fz;go_wp2;go_ret;exact⟨3,rfl,.inl ⟨HE.out,by decide,HB.out⟩⟩
  | some x1 =>
   rw[ho]at E;unfold fo ph elV at E;simp only[Option.getD_some,Option.isSome_some]at E
   cases hv:x1.varies
   .have HE:Hid (R=.ok { st with last:=x1,reset:=true }):=hp.trans (Rj hro ho hv)
    rw[hv]at E;clear hp ho hro;go_wp2_with fail;refine E.mono ?_;rintro e u3 ⟨rfl,b3⟩;have a2:=a0.out.step b3;clear c0 c1 c2 c3 c4 c5 c6 c7 c8 fz a4;obtain⟨c0,c1,c2,c3,c4,c5,c6,c7,c8,fz⟩:=a2.cells;have a4:=a2.lt;have a5:RdM w (ym u3 b x1) b T l2 { st with last:=x1 } vE:=a2.setLast x1;have a6:RdM w ((ym u3 b x1).setCell ⟨b,8,none⟩ (.bool true)) b T l2 { st with last:=x1,reset:=true } vE:=a5.set rfl rfl rfl;have HS:Hid (∀ o,RdM w (((ym u3 b x1).setCell ⟨b,8,none⟩ (.bool true)).alloc o) b T l2 { st with last:=x1,reset:=true } vE):=fun o=>a6.step (bY o)
    unfold ym at HS;rw[hv]at HS;clear E a0 a2 a5 a6;go_wp2;go_ret;exact⟨0,rfl,.inr ⟨_,_,_,HE.out,rfl,HS.out _⟩⟩
   .have HE:Hid (R=.error 3):=hp.trans (a16 hro ho hv)
    rw[hv]at E;clear hp ho hro;go_wp2_with fail;refine E.mono ?_;rintro e u3 ⟨rfl,b3⟩;have HB:Hid (Below _ _ _):=(a0.out.step b3).be;have a8:=b3.size;clear E a0 c0 c1 c2 c3 c4 c5 c6 c7 c8 fz;go_wp2;go_ret;exact⟨3,rfl,.inl ⟨HE.out,by decide,HB.out.alloc (by omega) _⟩⟩
def q1 (n:Int) (x:El):Bool:=x.first == n
def Lv (w:World) (es:List Ent) (q:El→Bool) (i:Value) (wr:World):Prop:=∃ k:Nat,k≤es.length∧i=.int .i64 k∧kh es q k∧Below w.heap.size w wr
def q2' (a n:Int) (x:El):Bool:=x.first == a && x.second == n
def q3' (a b n:Int) (x:El):Bool:=(x.first == a && x.second == b) && x.third == n
theorem aa9 (w:World) (B g cap:Nat) (es:List Ent) (n:Int) (hE:ac w B (.slice (some ⟨g,0,none⟩) es.length cap) es) (hn:es.length≤1048576) :
  Calls prog 192 #[.slice (some ⟨g,0,none⟩) es.length cap,.int .i64 n] w fun e w'=>e=.returned (.bool (d6 es (q1 n)))∧Below w.heap.size w w':=by
 go_enter func192,ntmps192;go_wp2;go_loopw [9] (fun i wr=>Lv w es (q1 n) i wr) (fun i _=>es.length-(intOf i).toNat)
 case atStart=>exact⟨0,Nat.zero_le _,rfl,fun j e hj=>by omega,bX⟩
 case round =>
  obtain⟨k,hk,rfl,a5,hb⟩:=hrel;have HN:Hid (kh es (q1 n) k):=a5;clear a5;by_cases a8:k<es.length
  .obtain⟨e,he⟩:∃ e,es[k]? = some e:=⟨_,List.getElem?_eq_getElem a8⟩
   obtain⟨x,hI,a0,a1,a2,a3,a4⟩:=(hE.below hb).cells k e he;obtain⟨xa,xn,xc,rfl⟩:∃ xa xn xc,x=.slice xa xn xc:=by
    rcases hI.form with ⟨rfl,_⟩|⟨_,_,rfl,_,_⟩
    .exact⟨_,_,_,rfl⟩
    .exact⟨_,_,_,rfl⟩
   have a9:(k:Int)<(es.length:Int):=by omega
   have a6:=hb.alloc hb.size (.cells #[.slice xa xn xc,.int .i64 e.el.first,.int .i64 e.el.second,.int .i64 e.el.third,.bool e.el.varies] 117);have HE:Hid _:=he;clear he hI hE;by_cases c0:e.el.first=n
   .have d0:(e.el.first == n)=true:=by simpa using c0
    have HA:Hid (d6 es (q1 n)=true):=sf HE.out (by show (q1 n e.el)=true;unfold q1;simp[c0]);clear HN HE c0;go_wp2;go_ret;rw[HA.out];exact⟨rfl,a6⟩
   .have d0:(e.el.first == n)=false:=by simpa using c0
    have a7:Hid (kh es (q1 n) (k+1)):=HN.out.succ HE.out (by show (q1 n e.el)=false;unfold q1;simp[c0]);clear HN HE c0;go_wp2;exact⟨⟨k+1,by omega,by go_num,a7.out,a6⟩,by simp[intOf];omega⟩
  .have HA:Hid (d6 es (q1 n)=false):=qp HN.out (by omega)
   clear HN hE;go_wp2;go_ret;rw[HA.out];exact⟨rfl,hb⟩
theorem aa8 (w:World) (n:Int):Calls prog 192 #[.slice none 0 0,.int .i64 n] w fun e w'=>e=.returned (.bool (d6 [] (q1 n)))∧Below w.heap.size w w':=by
 have HA:Hid (d6 [] (q1 n)=false):=rfl;go_enter func192,ntmps192;go_wp2;go_loop [9] (fun i=>i=.int .i64 0) (fun _=>0)
 case atStart=>rfl
 case round =>
  subst hrel;go_wp2;go_ret;rw[HA.out];exact⟨rfl,bX⟩
theorem aa7 {w:World} {B:Nat} {v:Value} {es:List Ent}(n:Int) (hE:ac w B v es) (hn:es.length≤1048576) :
  Calls prog 192 #[v,.int .i64 n] w fun e w'=>e=.returned (.bool (d6 es (q1 n)))∧Below w.heap.size w w':=by
 rcases hE.form with ⟨rfl,rfl⟩|⟨g,cap,rfl,_,_,_,_⟩
 .exact aa8 w n
 .exact aa9 w B g cap es n hE hn
theorem ab2 (w:World) (B g cap:Nat) (es:List Ent) (a n:Int) (hE:ac w B (.slice (some ⟨g,0,none⟩) es.length cap) es) (hn:es.length≤1048576) :
  Calls prog 194 #[.slice (some ⟨g,0,none⟩) es.length cap,.int .i64 a,.int .i64 n] w fun e w'=>e=.returned (.bool (d6 es (q2' a n)))∧Below w.heap.size w w':=by
 go_enter func194,ntmps194;go_wp2;go_loopw [11] (fun i wr=>Lv w es (q2' a n) i wr) (fun i _=>es.length-(intOf i).toNat)
 case atStart=>exact⟨0,Nat.zero_le _,rfl,fun j e hj=>by omega,bX⟩
 case round =>
  obtain⟨k,hk,rfl,a7,hb⟩:=hrel;have HN:Hid (kh es (q2' a n) k):=a7;clear a7;by_cases a8:k<es.length
  .obtain⟨e,he⟩:∃ e,es[k]? = some e:=⟨_,List.getElem?_eq_getElem a8⟩
   obtain⟨x,hI,a0,a1,a2,a3,a4⟩:=(hE.below hb).cells k e he;obtain⟨xa,xn,xc,rfl⟩:∃ xa xn xc,x=.slice xa xn xc:=by
    rcases hI.form with ⟨rfl,_⟩|⟨_,_,rfl,_,_⟩
    .exact⟨_,_,_,rfl⟩
    .exact⟨_,_,_,rfl⟩
   have a9:(k:Int)<(es.length:Int):=by omega
   have a6:=hb.alloc hb.size (.cells #[.slice xa xn xc,.int .i64 e.el.first,.int .i64 e.el.second,.int .i64 e.el.third,.bool e.el.varies] 117);have HE:Hid _:=he;clear he hI hE;by_cases c0:e.el.first=a
   .have d0:(e.el.first == a)=true:=by simpa using c0
    by_cases c1:e.el.second=n
    .have d1:(e.el.second == n)=true:=by simpa using c1
     have HA:Hid (d6 es (q2' a n)=true):=sf HE.out (by show (q2' a n e.el)=true;unfold q2';simp[c0,c1]);clear HN HE c0 c1;go_wp2;go_ret;rw[HA.out];exact⟨rfl,a6⟩
    .have d1:(e.el.second == n)=false:=by simpa using c1
     have a5:Hid (kh es (q2' a n) (k+1)):=HN.out.succ HE.out (by show (q2' a n e.el)=false;unfold q2';simp[c1]);clear HN HE c0 c1;go_wp2;exact⟨⟨k+1,by omega,by go_num,a5.out,a6⟩,by simp[intOf];omega⟩
   .have d0:(e.el.first == a)=false:=by simpa using c0
    have a5:Hid (kh es (q2' a n) (k+1)):=HN.out.succ HE.out (by show (q2' a n e.el)=false;unfold q2';simp[c0]);clear HN HE c0;go_wp2;exact⟨⟨k+1,by omega,by go_num,a5.out,a6⟩,by simp[intOf];omega⟩
  .have HA:Hid (d6 es (q2' a n)=false):=qp HN.out (by omega)
   clear HN hE;go_wp2;go_ret;rw[HA.out];exact⟨rfl,hb⟩
theorem ab1 (w:World) (a n:Int):Calls prog 194 #[.slice none 0 0,.int .i64 a,.int .i64 n] w fun e w'=>e=.returned (.bool (d6 [] (q2' a n)))∧Below w.heap.size w w':=by
 have HA:Hid (d6 [] (q2' a n)=false):=rfl;go_enter func194,ntmps194;go_wp2;go_loop [11] (fun i=>i=.int .i64 0) (fun _=>0)
 case atStart=>rfl
 case round =>
  subst hrel;go_wp2;go_ret;rw[HA.out];exact⟨rfl,bX⟩
theorem ab0 {w:World} {B:Nat} {v:Value} {es:List Ent}(a n:Int) (hE:ac w B v es) (hn:es.length≤1048576) :
  Calls prog 194 #[v,.int .i64 a,.int .i64 n] w fun e w'=>e=.returned (.bool (d6 es (q2' a n)))∧Below w.heap.size w w':=by
 rcases hE.form with ⟨rfl,rfl⟩|⟨g,cap,rfl,_,_,_,_⟩
 .exact ab1 w a n
 .exact ab2 w B g cap es a n hE hn
theorem ab5 (w:World) (B g cap:Nat) (es:List Ent) (a b n:Int) (hE:ac w B (.slice (some ⟨g,0,none⟩) es.length cap) es) (hn:es.length≤1048576) :
  Calls prog 195 #[.slice (some ⟨g,0,none⟩) es.length cap,.int .i64 a,.int .i64 b,.int .i64 n] w fun e w'=>e=.returned (.bool (d6 es (q3' a b n)))∧Below w.heap.size w w':=by
 go_enter func195,ntmps195;go_wp2;go_loopw [13] (fun i wr=>Lv w es (q3' a b n) i wr) (fun i _=>es.length-(intOf i).toNat)
 case atStart=>exact⟨0,Nat.zero_le _,rfl,fun j e hj=>by omega,bX⟩
 case round =>
  obtain⟨k,hk,rfl,a7,hb⟩:=hrel;have HN:Hid (kh es (q3' a b n) k):=a7;clear a7;by_cases a8:k<es.length
  .obtain⟨e,he⟩:∃ e,es[k]? = some e:=⟨_,List.getElem?_eq_getElem a8⟩
   obtain⟨x,hI,a0,a1,a2,a3,a4⟩:=(hE.below hb).cells k e he;obtain⟨xa,xn,xc,rfl⟩:∃ xa xn xc,x=.slice xa xn xc:=by
    rcases hI.form with ⟨rfl,_⟩|⟨_,_,rfl,_,_⟩
    .exact⟨_,_,_,rfl⟩
    .exact⟨_,_,_,rfl⟩
   have a9:(k:Int)<(es.length:Int):=by omega
   have a6:=hb.alloc hb.size (.cells #[.slice xa xn xc,.int .i64 e.el.first,.int .i64 e.el.second,.int .i64 e.el.third,.bool e.el.varies] 117);have HE:Hid _:=he;clear he hI hE;by_cases c0:e.el.first=a
   .have d0:(e.el.first == a)=true:=by simpa using c0
    by_cases c1:e.el.second=b
    .have d1:(e.el.second == b)=true:=by simpa using c1
     by_cases c2:e.el.third=n
     .have d2:(e.el.third == n)=true:=by simpa using c2
      have HA:Hid (d6 es (q3' a b n)=true):=sf HE.out (by show (q3' a b n e.el)=true;unfold q3';simp[c0,c1,c2]);clear HN HE c0 c1 c2;go_wp2;go_ret;rw[HA.out];exact⟨rfl,a6⟩
     .have d2:(e.el.third == n)=false:=by simpa using c2
      have a5:Hid (kh es (q3' a b n) (k+1)):=HN.out.succ HE.out (by show (q3' a b n e.el)=false;unfold q3';simp[c2]);clear HN HE c0 c1 c2;go_wp2;exact⟨⟨k+1,by omega,by go_num,a5.out,a6⟩,by simp[intOf];omega⟩
    .have d1:(e.el.second == b)=false:=by simpa using c1
     have a5:Hid (kh es (q3' a b n) (k+1)):=HN.out.succ HE.out (by show (q3' a b n e.el)=false;unfold q3';simp[c1]);clear HN HE c0 c1;go_wp2;exact⟨⟨k+1,by omega,by go_num,a5.out,a6⟩,by simp[intOf];omega⟩
   .have d0:(e.el.first == a)=false:=by simpa using c0
    have a5:Hid (kh es (q3' a b n) (k+1)):=HN.out.succ HE.out (by show (q3' a b n e.el)=false;unfold q3';simp[c0]);clear HN HE c0;go_wp2;exact⟨⟨k+1,by omega,by go_num,a5.out,a6⟩,by simp[intOf];omega⟩
  .have HA:Hid (d6 es (q3' a b n)=false):=qp HN.out (by omega)
   clear HN hE;go_wp2;go_ret;rw[HA.out];exact⟨rfl,hb⟩
theorem ab4 (w:World) (a b n:Int):Calls prog 195 #[.slice none 0 0,.int .i64 a,.int .i64 b,.int .i64 n] w fun e w'=>e=.returned (.bool (d6 [] (q3' a b n)))∧Below w.heap.size w w':=by
 have HA:Hid (d6 [] (q3' a b n)=false):=rfl;go_enter func195,ntmps195;go_wp2;go_loop [13] (fun i=>i=.int .i64 0) (fun _=>0)
 case atStart=>rfl
 case round =>
  subst hrel;go_wp2;go_ret;rw[HA.out];exact⟨rfl,bX⟩
theorem ab3 {w:World} {B:Nat} {v:Value} {es:List Ent}(a b n:Int) (hE:ac w B v es) (hn:es.length≤1048576) :
  Calls prog 195 #[v,.int .i64 a,.int .i64 b,.int .i64 n] w fun e w'=>e=.returned (.bool (d6 es (q3' a b n)))∧Below w.heap.size w w':=by
 rcases hE.form with ⟨rfl,rfl⟩|⟨g,cap,rfl,_,_,_,_⟩
 .exact ab4 w a b n
 .exact ab5 w B g cap es a b n hE hn
def ax5 (w:World) (n:Int) (i:Value) (wr:World):Prop:=∃ k:Nat,k≤127∧i=.int .i64 k∧qv n k∧Below w.heap.size w wr
theorem Vj (n:Int) (w:World) (hm:db w 7 ij):Calls prog 191 #[.int .i64 n] w fun e w'=>e=.returned (.bool (ff n))∧Below w.heap.size w w':=by
 go_enter func191,ntmps191;go_wp2;go_loopw [6] (fun i wr=>ax5 w n i wr) (fun i _=>127-(intOf i).toNat)
 case atStart=>exact⟨0,Nat.zero_le _,rfl,fun j e hj=>by omega,bX⟩
 case round =>
  obtain⟨k,hk,rfl,a1,hb⟩:=hrel;have HN:Hid (qv n k):=a1;clear a1;by_cases a2:k<127
  .have a3:(k:Int)<127:=by omega
   have BS:=By (k:Int) (by omega) (by omega) (by omega) wr (hm.below hb hm.lt);clear hm
   cases ho:mk (base (k:Int)) with
   | none =>
    rw[ho]at BS;have a0:Hid (qv n (k+1)):=HN.out.succ (fun e h=>by rw[ho]at h;cases h);unfold fo ph elV at BS;simp only[Option.getD_none,Option.isSome_none]at BS;clear HN ho;go_wp2_with fail;refine BS.mono ?_;rintro e' w2 ⟨rfl,b2⟩;have b3:=hb.trans (b2.mono hb.size);clear BS;go_wp2;exact⟨⟨k+1,by omega,by go_num,a0.out,b3.alloc b3.size _⟩,by simp[intOf];omega⟩
   | some x =>
    rw[ho]at BS;unfold fo ph elV at BS;simp only[Option.getD_some,Option.isSome_some]at BS;by_cases c:x.first=n
    .have HT:Hid (ff n=true):=c ▸ ai6 a2 ho
     have d:(x.first == n)=true:=by simpa using c
     clear HN ho c;go_wp2_with fail;refine BS.mono ?_;rintro e' w2 ⟨rfl,b2⟩;have b3:=hb.trans (b2.mono hb.size);clear BS;go_wp2;go_ret;rw[HT.out];exact⟨rfl,b3.alloc b3.size _⟩
    .have a0:Hid (qv n (k+1)):=HN.out.succ (fun e h=>by rw[ho]at h;cases h;exact c)
     have d:(x.first == n)=false:=by simpa using c
     clear HN ho c;go_wp2_with fail;refine BS.mono ?_;rintro e' w2 ⟨rfl,b2⟩;have b3:=hb.trans (b2.mono hb.size);clear BS;go_wp2;exact⟨⟨k+1,by omega,by go_num,a0.out,b3.alloc b3.size _⟩,by simp[intOf];omega⟩
  .have HT:Hid (ff n=false):=HN.out.all (by omega)
   clear HN hm;go_wp2;go_ret;rw[HT.out];exact⟨rfl,hb⟩
def l4 (u:World) (s:Nat) (e:El):Prop:=u.heap[s]? = some (.cells #[.int .i64 e.first,.int .i64 e.second,.int .i64 e.third,.bool e.varies] 111)∧u.heap[s+1]? = some (.cells #[.int .i64 0,.int .i64 0,.int .i64 0,.bool false] 111)
theorem l4.sizes {u:World} {s:Nat} {e:El}(h:l4 u s e):s<u.heap.size∧s+1<u.heap.size:=⟨(Array.getElem?_eq_some_iff.1 h.1).1,(Array.getElem?_eq_some_iff.1 h.2).1⟩
theorem l4.elem {u:World} {s:Nat} {e:El}(h:l4 u s e):u.cell? ⟨s,0,none⟩=some (.int .i64 e.first)∧u.cell? ⟨s,1,none⟩=some (.int .i64 e.second)∧u.cell? ⟨s,2,none⟩=some (.int .i64 e.third)∧u.cell? ⟨s,3,none⟩=some (.bool e.varies) :=
 ⟨cell_of_row _ _ 0 _ _ _ h.1,cell_of_row _ _ 1 _ _ _ h.1,cell_of_row _ _ 2 _ _ _ h.1,cell_of_row _ _ 3 _ _ _ h.1⟩
theorem l4.result {u:World} {s:Nat} {e:El}(h:l4 u s e):u.cell? ⟨s+1,0,none⟩=some (.int .i64 0)∧u.cell? ⟨s+1,1,none⟩=some (.int .i64 0)∧u.cell? ⟨s+1,2,none⟩=some (.int .i64 0)∧u.cell? ⟨s+1,3,none⟩=some (.bool false)∧∀ j,u.frozen? ⟨s+1,j,none⟩=false :=
 ⟨cell_of_row _ _ 0 _ _ _ h.2,cell_of_row _ _ 1 _ _ _ h.2,cell_of_row _ _ 2 _ _ _ h.2,cell_of_row _ _ 3 _ _ _ h.2,fun j=>by simp[World.frozen?,h.2]⟩
theorem l4.below {u u':World} {s:Nat} {e:El}(h:l4 u s e) (hb:Below u.heap.size u u'):l4 u' s e:=by
 have hf:=h.sizes;exact⟨by rw[hb.block _ hf.1];exact h.1,by rw[hb.block _ hf.2];exact h.2⟩
theorem Fh (w:World) (e:El):l4 ((w.alloc (.cells #[.int .i64 e.first,.int .i64 e.second,.int .i64 e.third,.bool e.varies] 111)).alloc (.cells #[.int .i64 0,.int .i64 0,.int .i64 0,.bool false] 111)) w.heap.size e :=
 ⟨by rw[Below.heap_alloc _ _ _ (by simp)];exact heap_alloc_new w _,heap_alloc2_new w _ _⟩
theorem Ac (w:World) (e:El):Below w.heap.size w ((w.alloc (.cells #[.int .i64 e.first,.int .i64 e.second,.int .i64 e.third,.bool e.varies] 111)).alloc (.cells #[.int .i64 0,.int .i64 0,.int .i64 0,.bool false] 111)) :=
 ((Below.refl w.heap.size w).alloc bR _).alloc (by simp) _
theorem Qs {es:List Ent} {m:Int}(h:ff m=true):du es m=false:=by unfold du;rw[h];rfl
theorem N6 {es:List Ent} {m:Int}(h:ff m=false):du es m=!d6 es (q1 m):=by
 unfold du d6 q1;rw[h,Bool.not_false,Bool.true_and,List.not_any_eq_all_not];rfl
def B1i (w:World) (e:El) (es:List Ent) (N:Int) (i:Value) (wr:World):Prop:=∃ m:Int,i=.int .i64 m∧0≤m∧m≤65536∧ke es (65536-m).toNat m=N∧l4 wr w.heap.size e∧Below w.heap.size w wr
theorem M6 {w:World} {B:Nat} {v:Value} {es:List Ent} {e:El}(hE:ac w B v es) (hn:es.length≤1048576) (hF:∀ e ∈ es,e.el.first≤65535) (h0:0≤e.first) (h1:e.first≤65535) (hm:db w 7 ij) :
  Calls prog 169 #[v,.agg #[.int .i64 e.first,.int .i64 e.second,.int .i64 e.third,.bool e.varies],.int .i64 1] w fun x w'=>x=.returned (elV ⟨ke es (65535-e.first).toNat (e.first+1),32,2,false⟩)∧Below w.heap.size w w':=by
 have HB:Hid (Below _ _ _):=Ac w e;have HX:Hid (l4 _ _ _):=Fh w e;have HE:Hid (ac _ _ _ _):=hE;have HM:Hid (db w 7 ij):=hm;have P:=fun n w=>nl n w
 obtain⟨N,HS⟩:∃ N,Hid (ke es (65535-e.first).toNat (e.first+1)=N):=⟨_,rfl⟩
 rw[HS.out];have a9:Hid (ke es (65536-(e.first+1)).toNat (e.first+1)=N):=by
  show _=_
  rw[show 65536-(e.first+1)=65535-e.first by omega];exact HS.out
 clear hE HS hm;go_enter func169,ntmps169;go_wp2_with fail;go_loopw [7] (fun i wr=>B1i w e es N i wr) (fun i _=>(65536-intOf i).toNat)
 case atStart=>exact⟨e.first+1,rfl,by omega,by omega,a9.out,HX.out,HB.out⟩
 case round =>
  clear a9 HX HB;obtain⟨m,rfl,m0,m1,hs,hx,hb⟩:=hrel;have HS:Hid (ke es (65536-m).toNat m=N):=hs;have IB:=Vj m wr (HM.out.below hb HM.out.lt);have HX:Hid (l4 _ _ _):=hx;have HB:Hid _:=hb;have a8:Hid (ac _ _ _ _):=HE.out.below hb;clear hs hx hb HE HM;go_wp2_with fail;refine IB.mono ?_;rintro e' w2 ⟨rfl,b2⟩;have a3:Hid (l4 _ _ _):=HX.out.below b2;have a1:Hid _:=HB.out.trans (b2.mono HB.out.size);have H1:=aa7 m (a8.out.below b2) hn;clear IB b2 HX HB a8
  cases ht:ff m
  .cases hf:d6 es (q1 m)
   .rw[hf]at H1
    have a0:du es m=true:=by rw[N6 ht,hf];rfl
    have hN:m=N:=(If a0).symm.trans HS.out;subst hN;clear HS hF a0 hf ht;go_wp2_with fail;refine H1.mono ?_;rintro e' w3 ⟨rfl,b3⟩;have a4:Hid (l4 _ _ _):=a3.out.below b3;have a2:Hid _:=a1.out.trans (b3.mono a1.out.size);clear H1 b3 a3 a1;go_wp2_with fail;refine (P _ _).mono ?_;rintro e' w4 ⟨rfl,b4⟩;have a7:=a4.out.below b4;have c4:=a2.out.trans (b4.mono a2.out.size);obtain⟨q0,q1,q2,q3,f0⟩:=a7.result;obtain⟨n0,n1⟩:=a7.sizes;clear P a7 a4 a2 b4;go_wp2;refine bodyPost_ret (v:=.agg #[.int .i64 m,.int .i64 32,.int .i64 2,.bool false]) ?_ rfl ⟨rfl,fg c4 _ _ _ _⟩;rw[av rfl];go_simp
   .rw[hf]at H1
    have a0:du es m=false:=by rw[N6 ht,hf];rfl
    have a6:m<65536:=by
     by_cases c:m=65536
     .subst c;rw[xi hF]at a0;cases a0
     .omega
    have a5:Hid (ke es (65536-(m+1)).toNat (m+1)=N):=(Bj a0 a6).symm.trans HS.out;clear HS hF a0 hf ht P;go_wp2_with fail;refine H1.mono ?_;rintro e' w3 ⟨rfl,b3⟩;have a4:Hid (l4 _ _ _):=a3.out.below b3;have a2:Hid _:=a1.out.trans (b3.mono a1.out.size);clear H1 b3 a3 a1;go_wp2;exact⟨⟨m+1,by go_num,by omega,by omega,a5.out,a4.out,a2.out⟩,by simp[intOf];omega⟩
  .have a0:du es m=false:=Qs ht
   have a6:m<65536:=by
    by_cases c:m=65536
    .subst c;rw[xi hF]at a0;cases a0
    .omega
   have a5:Hid (ke es (65536-(m+1)).toNat (m+1)=N):=(Bj a0 a6).symm.trans HS.out;clear HS hF a0 ht P H1;go_wp2;exact⟨⟨m+1,by go_num,by omega,by omega,a5.out,a3.out,a1.out⟩,by simp[intOf];omega⟩
def B2i (w:World) (e:El) (es:List Ent) (N:Int) (i:Value) (wr:World):Prop:=∃ m:Int,i=.int .i64 m∧0≤m∧m≤1000∧jt (fun n=>d6 es (q2 e n)) nx2 999 m N∧l4 wr w.heap.size e∧Below w.heap.size w wr
theorem Sv {es:List Ent} {q:El→Bool}(h:d6 es q=true):∃ x ∈ es,q x.el=true:=List.any_eq_true.1 h
theorem M7 {w:World} {B:Nat} {v:Value} {es:List Ent} {e:El}(hE:ac w B v es) (hn:es.length≤1048576) (hF:∀ x ∈ es,x.el.second≤999) (h0:0≤e.second) (h1:e.second≤999) :
  Calls prog 169 #[v,.agg #[.int .i64 e.first,.int .i64 e.second,.int .i64 e.third,.bool e.varies],.int .i64 2] w fun x w'=>x=.returned (elV (zm es e))∧Below w.heap.size w w':=by
 have HB:Hid (Below _ _ _):=Ac w e;have HX:Hid (l4 _ _ _):=Fh w e;have HE:Hid (ac _ _ _ _):=hE;unfold zm;obtain⟨N,HS⟩:∃ N,Hid (o7 (fun n=>d6 es (q2 e n)) nx2 1001 (e.second+1)=N):=⟨_,rfl⟩
 rw[HS.out];have a1:Hid (jt (fun n=>d6 es (q2 e n)) nx2 999 (e.second+1) N):=⟨1001,by omega,HS.out⟩;clear hE HS;go_enter func169,ntmps169;go_wp2_with fail;go_loopw [8] (fun i wr=>B2i w e es N i wr) (fun i _=>(1000-intOf i).toNat)
 case atStart=>exact⟨e.second+1,rfl,by omega,by omega,a1.out,HX.out,HB.out⟩
 case round =>
  clear a1 HX HB;obtain⟨m,rfl,m0,m1,hs,hx,hb⟩:=hrel;have HS:Hid (jt _ _ _ _ _):=hs;have H2:=ab0 e.first m (HE.out.below hb) hn
  obtain⟨e0,e1,e2,e3⟩:=hx.elem;have HX:Hid (l4 _ _ _):=hx;have HB:Hid _:=hb;clear hs hx hb HE
  cases hf:d6 es (q2' e.first m)
  .rw[hf]at H2
   have hN:m=N:=HS.out.last hf;subst hN;clear HS hF hf;go_wp2_with fail;refine H2.mono ?_;rintro e' w3 ⟨rfl,b3⟩;have a0:=HX.out.below b3;have c3:=HB.out.trans (b3.mono HB.out.size);clear H2 b3 HX HB e0 e1 e2 e3;obtain⟨e0,e1,e2,e3⟩:=a0.elem;obtain⟨q0,q1,q2,q3,f0⟩:=a0.result;obtain⟨n0,n1⟩:=a0.sizes;clear a0;go_wp2;refine bodyPost_ret (v:=.agg #[.int .i64 e.first,.int .i64 m,.int .i64 2,.bool false]) ?_ rfl ⟨rfl,fg c3 _ _ _ _⟩;rw[av rfl];go_simp
  .rw[hf]at H2
   have a5:m≤999:=by
    obtain⟨x,hx,hq⟩:=Sv hf;unfold q2' at hq;rw[Bool.and_eq_true]at hq;have:=hF x hx;have:=eq_of_beq hq.2;omega
   have a3:Hid (jt (fun n=>d6 es (q2 e n)) nx2 999 (m+1) N):=HS.out.next hf a5 (by unfold nx2;omega)
   clear HS hF hf;go_wp2_with fail;refine H2.mono ?_;rintro e' w3 ⟨rfl,b3⟩;have a4:Hid (l4 _ _ _):=HX.out.below b3;have a2:Hid _:=HB.out.trans (b3.mono HB.out.size);clear H2 b3 HX HB e0 e1 e2 e3;go_wp2;exact⟨⟨m+1,by go_num,by omega,by omega,a3.out,a4.out,a2.out⟩,by simp[intOf];omega⟩
def B3i (w:World) (e:El) (es:List Ent) (N:Int) (i:Value) (wr:World):Prop:=∃ m:Int,i=.int .i64 m∧0≤m∧m≤100∧jt (fun n=>d6 es (q3 e n)) nx3 99 (if m=8 then 9 else m) N∧l4 wr w.heap.size e∧Below w.heap.size w wr
theorem M8 {w:World} {B:Nat} {v:Value} {es:List Ent} {e:El}(hE:ac w B v es) (hn:es.length≤1048576) (hF:∀ x ∈ es,x.el.third≤99) (h0:0≤e.third) (h1:e.third≤99) :
  Calls prog 169 #[v,.agg #[.int .i64 e.first,.int .i64 e.second,.int .i64 e.third,.bool e.varies],.int .i64 3] w fun x w'=>x=.returned (elV (qm es e))∧Below w.heap.size w w':=by
 have HB:Hid (Below _ _ _):=Ac w e;have HX:Hid (l4 _ _ _):=Fh w e;have HE:Hid (ac _ _ _ _):=hE;unfold qm;obtain⟨N,HS⟩:∃ N,Hid (o7 (fun n=>d6 es (q3 e n)) nx3 1001 (nx3 e.third)=N):=⟨_,rfl⟩
 rw[HS.out];have a3:Hid (jt (fun n=>d6 es (q3 e n)) nx3 99 (if e.third+1=8 then 9 else e.third+1) N):=by
  refine⟨1001,by split <;> omega,?_⟩;rw[<- HS.out];congr 1
  unfold nx3;split <;> omega
 clear hE HS;go_enter func169,ntmps169;go_wp2_with fail;go_loopw [9] (fun i wr=>B3i w e es N i wr) (fun i _=>(100-intOf i).toNat)
 case atStart=>exact⟨e.third+1,rfl,by omega,by omega,a3.out,HX.out,HB.out⟩
 case round =>
  clear a3 HX HB;obtain⟨m,rfl,m0,m1,hs,hx,hb⟩:=hrel;have HS:Hid (jt _ _ _ _ _):=hs;have H3:=ab3 e.first e.second m (HE.out.below hb) hn
  obtain⟨e0,e1,e2,e3⟩:=hx.elem;have HX:Hid (l4 _ _ _):=hx;have HB:Hid _:=hb;clear hs hx hb HE;by_cases h8:m=8
  .subst h8
   have a2:Hid (jt (fun n=>d6 es (q3 e n)) nx3 99 (if (9:Int)=8 then 9 else 9) N):=by
    have:=HS.out;rw[if_pos rfl]at this;rw[if_neg (by omega)];exact this
   clear HS hF H3;go_wp2;exact⟨⟨9,by go_num,by omega,by omega,a2.out,HX.out,HB.out⟩,by simp[intOf]⟩
  .have a7:(m == 8)=false:=by simpa using h8
   have a0:=HS.out;rw[if_neg h8]at a0
   cases hf:d6 es (q3' e.first e.second m)
   .rw[hf]at H3
    have hN:m=N:=a0.last hf;subst hN;clear HS a0 hF hf h8;go_wp2_with fail;refine H3.mono ?_;rintro e' w3 ⟨rfl,b3⟩;have a1:=HX.out.below b3;have c3:=HB.out.trans (b3.mono HB.out.size);clear H3 b3 HX HB e0 e1 e2 e3;obtain⟨e0,e1,e2,e3⟩:=a1.elem;obtain⟨q0,q1,q2,q3,f0⟩:=a1.result;obtain⟨n0,n1⟩:=a1.sizes;clear a1;go_wp2;refine bodyPost_ret (v:=.agg #[.int .i64 e.first,.int .i64 e.second,.int .i64 m,.bool false]) ?_ rfl ⟨rfl,fg c3 _ _ _ _⟩;rw[av rfl];go_simp
   .rw[hf]at H3
    have a6:m≤99:=by
     obtain⟨x,hx,hq⟩:=Sv hf;unfold q3' at hq;rw[Bool.and_eq_true]at hq;have:=hF x hx;have:=eq_of_beq hq.2;omega
    have a2:Hid (jt (fun n=>d6 es (q3 e n)) nx3 99 (if m+1=8 then 9 else m+1) N):=by
     have h5:=a0.next hf a6 (Cq m)
     have e5:nx3 m=(if m+1=8 then 9 else m+1):=by
      unfold nx3;split <;> omega
     rw[e5]at h5;exact h5
    clear HS a0 hF hf h8;go_wp2_with fail;refine H3.mono ?_;rintro e' w3 ⟨rfl,b3⟩;have a5:Hid (l4 _ _ _):=HX.out.below b3;have a4:Hid _:=HB.out.trans (b3.mono HB.out.size);clear H3 b3 HX HB e0 e1 e2 e3;go_wp2;exact⟨⟨m+1,by go_num,by omega,by omega,a2.out,a5.out,a4.out⟩,by simp[intOf];omega⟩
theorem Q5 {w:World} {B:Nat} {v:Value} {st:RS} {n:Nat}(hE:ac w B v st.es) (hi:gj st) (h:n=1∨n=2∨n=3) (hm:db w 7 ij) :
  Calls prog 169 #[v,.agg #[.int .i64 st.last.first,.int .i64 st.last.second,.int .i64 st.last.third,.bool st.last.varies],.int .i64 (n:Int)] w fun x w'=>x=.returned (elV (gk st.es st.last n))∧Below w.heap.size w w':=by
 obtain⟨h1,h2,h3⟩:=cg hi.good;rcases h with rfl|rfl|rfl
 .exact M6 hE (by omega) (fun e he=>(h3 e he).2.1.2) hi.f0 hi.f1 hm
 .exact M7 hE (by omega) (fun e he=>(h3 e he).2.2.1.2) hi.s0 hi.s1
 .exact M8 hE (by omega) (fun e he=>(h3 e he).2.2.2.1.2) hi.t0 hi.t1
end Go.Proofs.YtjbmgghehdemdaaGreatDoor
