/- SBook6 -/
import Derived.Test.YtjbmgghehdemdaaGreatDoorMT24
import Derived.Test.YtjbmgghehdemdaaGreatDoorMT27
namespace Go.Proofs.YtjbmgghehdemdaaGreatDoor
set_option maxRecDepth 100000
set_option maxHeartbeats 16000000
open _root_.Go.Proofs.Tryz
open Go.RowKit
def Ch (ss:List ByteArray):Nat→ByteArray
 | 0=>⟨#[]⟩
 | j+1=>match ss[j]? with
  | none=>⟨#[]⟩
  | some y=>mu (an y)
theorem Es {ss:List ByteArray} {j:Nat} {y:ByteArray}(h:ss[j]? = some y):Ch ss (j+1)=mu (an y):=by simp[Ch,h]
def as0 (w:World) (ss:List ByteArray) (vb vl i:Value) (wr:World):Prop :=
 ∃ (k hi:Nat) (vs:List Value),k≤ss.length∧i=.int .i64 (k:Int)∧vl=.string (Ch ss k)∧bj wr w.heap.size hi vb (dp ss k) vs∧bkF (dp ss k) (ss.drop k)=ca ss∧Below w.heap.size w wr
theorem Rs {w:World} {B:Nat} {vp:Value} {ss:List ByteArray}(hS:ak w B vp ss) (hz:∀ s ∈ ss,s.size≤1048576) (hl:ss.length≤1048576) :
  Calls prog 77 #[vp] w fun e w'=>∃ v,e=.returned (.tuple #[v,.bool (ca ss).isSome])∧(∀ gs,ca ss=some gs→∃ vs,bj w' w.heap.size w'.heap.size v gs vs)∧Below w.heap.size w w':=by
 obtain⟨a,c,rfl,hq⟩:=js hS;have HQ:Hid _:=hq;have HZ:Hid (∀ s ∈ ss,s.size≤1048576):=hz;clear hS hq hz;by_cases av:ss.length≤40
 .have aI:¬ (40:Int)<(ss.length:Int):=by omega
  obtain⟨i1,hi1,ax,ay,az⟩:=info_parts Fu;have aA:Hid (bkF (dp ss 0) (ss.drop 0)=ca ss):=by show _=_;unfold ca;rw[if_pos av];simp[dp]
  go_enter func77,ntmps77;go_wp2_with fail;go_loopw [4,5,15] (fun vb vl i wr=>as0 w ss vb vl i wr) (fun _ _ i _=>ss.length-(intOf i).toNat)
  case atStart=>exact⟨0,_,[],Nat.zero_le _,rfl,rfl,bj.nil w _,aA.out,bX⟩
  case round =>
   obtain⟨k,hi,vs,hk,rfl,rfl,hN,hE,hb⟩:=hrel;by_cases aF:k<ss.length
   .obtain⟨s,hs⟩:∃ s,ss[k]? = some s:=⟨_,List.getElem?_eq_getElem aF⟩
    obtain⟨g,rfl,qc⟩:=HQ.out k s hs;have c0:=qc wr hb k s hs;have aJ:=ag c0;have aG:(k:Int)<(ss.length:Int):=by omega
    have RD:=Pg s wr (HZ.out s (List.mem_of_getElem? hs));have aO:=yj s;have aP:=HZ.out s (List.mem_of_getElem? hs);have HS:Hid (ss[k]? = some s):=hs;have HN:Hid (bj wr w.heap.size hi _ (dp ss k) vs):=hN;have HE:Hid (bkF (dp ss k) (ss.drop k)=ca ss):=hE;have HB:Hid (Below w.heap.size w wr):=hb;clear hs hN hE hb qc;by_cases a9:da s=0
    .rw[a9]at RD
     have ad:=vu a9;have ar:Hid (Ch ss (k+1)=mu (an s)):=Es HS.out;obtain⟨x0,ap⟩:∃ x0,(an s)[0]? = some x0:=⟨_,List.getElem?_eq_getElem ad⟩
     obtain⟨xl,aq⟩:∃ xl,(an s)[(an s).length-1]? = some xl:=⟨_,List.getElem?_eq_getElem (by omega)⟩
     have aB:Hid (qb (an s)=x0.key):=Se ap;have au:Hid (mu (an s)=xl.key):=Ss aq;have HX:Hid ((an s)[0]? = some x0):=ap;have aC:Hid ((an s)[(an s).length-1]? = some xl):=aq;clear ap aq;have aM:((an s).length:Int)-1=(((an s).length-1:Nat):Int):=by omega
     have aN:(((an s).length-1:Nat):Int)<((an s).length:Int):=by omega
     have aw:(0:Int)<((an s).length:Int):=by omega
     go_wp2_with fail;refine RD.mono ?_;rintro e w2 ⟨v2,rfl,r2,b2⟩;obtain⟨g2,c2,rfl,q2⟩:=Oy r2 ad;have d0:w2.cell? ⟨g2,0,none⟩=some (.string x0.key):=q2 0 x0 HX.out;have dl:=q2 _ xl aC.out;have aK:=ag d0;have ae:Hid (bj w2 w.heap.size hi u4 (dp ss k) vs):=HN.out.below b2;have a5:Hid (Below w.heap.size w w2):=HB.out.trans (b2.mono HB.out.size);have af:Hid (Rws w2 wr.heap.size _ _):=r2;have a8:Hid (Below wr.heap.size wr w2):=b2;clear RD r2 b2 q2;by_cases aD:k=0
     .subst aD
      have HO:Hid (ft (dp ss 0) s=true):=by show _=_;rw[Ew,a9];rfl
      have a6:Hid (bj w2 w.heap.size hi _ (dp ss 0) vs):=ae.out;have a3:Hid (Below w.heap.size w w2):=a5.out;have aa:(dp ss 0).length=0:=wu hk;have aH:=a3.out.size;have bA:=(Below.refl w2.heap.size w2).alloc bR (.cells #[.slice (some ⟨g2,0,none⟩) (an s).length c2] 32);have a0:=(a6.out.below bA).row;obtain⟨a1,c1,ao,_⟩:=a6.out.form;subst ao;have HU:Hid (Below wr.heap.size wr (w2.alloc (.cells #[.slice (some ⟨g2,0,none⟩) (an s).length c2] 32))):=a8.out.alloc a8.out.size _;have a4:Hid (Rws (w2.alloc (.cells #[.slice (some ⟨g2,0,none⟩) (an s).length c2] 32)) wr.heap.size (.slice (some ⟨g2,0,none⟩) (an s).length c2) (an s)):=af.out.below bA
      go_wp2_with (at_builtin;refine wpList_append_lies _ rfl _ _ 132 rfl w.heap.size 32 i1 (.slice none 0 0) 1 24 underlying132 hi1 ax ay az rfl (by decide) _ _ _ rfl a0 ⟨_,0,none⟩ 1 1 [.slice (some ⟨g2,0,none⟩) (an s).length c2] rfl rfl (cell_one_new _ _ _) (fun x hx=>by simp at hx;subst hx;rfl) (by omega) (by unfold maxLen;omega) (by omega) (by simp;omega) _ rfl ?_)
      intro g5 c5 u5 ab a7 al am;have N5:=HN.out.push HB.out.size HU.out a4.out a7 ab;have B5:Below w.heap.size w u5:=Below.grown (a3.out.trans (bA.mono a3.out.size)) a7 (Nat.le_trans a3.out.size bA.size) (fun j hj=>(World.ownsRow.lt a0 j hj).1);have NN:bj u5 w.heap.size u5.heap.size (.slice (some ⟨g5,0,none⟩) ((dp ss 0).length+1) c5) (dp ss (0+1)) _:=mg HS.out ▸ N5;have aj:Hid _:=NN;have ah:Hid (Below w.heap.size w u5):=B5;have ai:Hid (bkF (dp ss (0+1)) (ss.drop (0+1))=ca ss):=by show _=_;rw[<- HE.out,Dm HS.out HO.out,mg HS.out]
      clear N5 B5 NN HN HB HU a4 a7 ab a0 bA a6 a3 ae a5 af a8 HE;go_wp2;exact⟨⟨0+1,_,_,by omega,by go_num,(by rw[ar.out,au.out]),aj.out,ai.out,ah.out⟩,by simp[intOf];omega⟩
     .obtain⟨j,rfl⟩:∃ j,k=j+1:=⟨k-1,by omega⟩
      obtain⟨y,hy⟩:∃ y,ss[j]? = some y:=⟨_,List.getElem?_eq_getElem (by omega)⟩
      have ac:=Ev (s:=s) hy;rw[a9,aB.out,<- Es hy]at ac;have aL:(0:Int)<((j+1:Nat):Int):=by omega
      generalize Ch ss (j+1)=lk at *
      cases hlk:ltK lk x0.key
      .have HF:Hid (ca ss=none):=by show _=_;rw[<- HE.out];exact Gx HS.out (by rw[ac,hlk];rfl)
       unfold ltK at hlk;clear ac;go_wp2_with fail;have a3:Hid (Below w.heap.size w w2):=a5.out;go_ret2;rw[HF.out];exact⟨_,rfl,fun gs h=>(by cases h),a3.out⟩
      .have HO:Hid (ft (dp ss (j+1)) s=true):=by show _=_;rw[ac,hlk];rfl
       unfold ltK at hlk;clear ac;have a6:Hid (bj w2 w.heap.size hi _ (dp ss (j+1)) vs):=ae.out;have a3:Hid (Below w.heap.size w w2):=a5.out;have aa:(dp ss (j+1)).length=j+1:=wu hk;have aH:=a3.out.size;have bA:=(Below.refl w2.heap.size w2).alloc bR (.cells #[.slice (some ⟨g2,0,none⟩) (an s).length c2] 32);have a0:=(a6.out.below bA).row;obtain⟨a1,c1,ao,_⟩:=a6.out.form;subst ao;rw[aa]at a0;have HU:Hid (Below wr.heap.size wr (w2.alloc (.cells #[.slice (some ⟨g2,0,none⟩) (an s).length c2] 32))):=a8.out.alloc a8.out.size _;have a4:Hid (Rws (w2.alloc (.cells #[.slice (some ⟨g2,0,none⟩) (an s).length c2] 32)) wr.heap.size (.slice (some ⟨g2,0,none⟩) (an s).length c2) (an s)):=af.out.below bA
       go_wp2_with (at_builtin;refine wpList_append_lies _ rfl _ _ 132 rfl w.heap.size 32 i1 (.slice none 0 0) 1 24 underlying132 hi1 ax ay az rfl (by decide) _ _ _ rfl a0 ⟨_,0,none⟩ 1 1 [.slice (some ⟨g2,0,none⟩) (an s).length c2] rfl rfl (cell_one_new _ _ _) (fun x hx=>by simp at hx;subst hx;rfl) (by omega) (by unfold maxLen;omega) (by omega) (by simp;omega) _ rfl ?_)
       intro g5 c5 u5 ab a7 al am;have N5:=HN.out.push HB.out.size HU.out a4.out (by rw[aa];exact a7) (by rw[aa];exact ab);rw[mg HS.out,aa]at N5;have B5:Below w.heap.size w u5:=Below.grown (a3.out.trans (bA.mono a3.out.size)) a7 (Nat.le_trans a3.out.size bA.size) (fun i hj=>(World.ownsRow.lt a0 i hj).1);have NN:bj u5 w.heap.size u5.heap.size (.slice (some ⟨g5,0,none⟩) (j+1+1) c5) (dp ss (j+1+1)) _:=N5;have aj:Hid _:=NN;have ah:Hid (Below w.heap.size w u5):=B5;have ai:Hid (bkF (dp ss (j+1+1)) (ss.drop (j+1+1))=ca ss):=by show _=_;rw[<- HE.out,Dm HS.out HO.out,mg HS.out]
       clear N5 B5 NN HN HB HU a4 a7 ab a0 bA a6 a3 ae a5 af a8 HE;go_wp2;exact⟨⟨j+1+1,_,_,by omega,by go_num,(by rw[ar.out,au.out]),aj.out,ai.out,ah.out⟩,by simp[intOf];omega⟩
    .have HF:Hid (ca ss=none):=by show _=_;rw[<- HE.out];exact Gx HS.out (by unfold ft;rw[decide_eq_false a9];rfl)
     generalize da s=cd at *;go_wp2_with fail;refine RD.mono ?_;rintro e w2 ⟨v2,rfl,r2,b2⟩;obtain⟨a2,c2,rfl⟩:=bz r2;have a5:Hid (Below w.heap.size w w2):=HB.out.trans (b2.mono HB.out.size);clear RD r2 b2;go_wp2_with fail;have a3:Hid (Below w.heap.size w w2):=a5.out;go_ret2;rw[HF.out];exact⟨_,rfl,fun gs h=>(by cases h),a3.out⟩
   .have aE:k=ss.length:=by omega
    subst aE;have HF:Hid (ca ss=some (dp ss ss.length)):=by show _=_;rw[<- hE,Sf]
    have HN:Hid (bj wr w.heap.size hi _ (dp ss ss.length) vs):=hN;have HB:Hid (Below w.heap.size w wr):=hb;clear hN hb hE;go_wp2;go_ret2;rw[HF.out];exact⟨_,rfl,fun gs h=>by obtain rfl:=Option.some.inj h;exact⟨_,HN.out.high HN.out.top bR⟩,HB.out⟩
 .have aI:(40:Int)<(ss.length:Int):=by omega
  have HF:Hid (ca ss=none):=by show _=_;unfold ca;rw[if_neg av]
  go_enter func77,ntmps77;go_wp2;go_ret2;rw[HF.out];exact⟨_,rfl,fun gs h=>(by cases h),bX⟩
def ba (u:World) (p:Nat) (r:ByteArray) (v:Value) (log:ByteArray) (syn:Int):Prop:=u.heap[p]? = some (.cells #[.string r,v,.string log,.int .i64 syn] 25)
theorem ba.lt {u:World} {p:Nat} {r:ByteArray} {v:Value} {log:ByteArray} {syn:Int}(h:ba u p r v log syn):p<u.heap.size:=(Array.getElem?_eq_some_iff.1 h).1
theorem ba.below {u u':World} {p:Nat} {r:ByteArray} {v:Value} {log:ByteArray} {syn:Int}(h:ba u p r v log syn) (hb:Below u.heap.size u u'):ba u' p r v log syn:=(hb.block p h.lt).trans h
theorem ba.facts {u:World} {p:Nat} {r:ByteArray} {v:Value} {log:ByteArray} {syn:Int}(h:ba u p r v log syn):p<u.heap.size∧u.cell? ⟨p,0,none⟩=some (.string r)∧u.cell? ⟨p,1,none⟩=some v∧u.cell? ⟨p,2,none⟩=some (.string log)∧u.cell? ⟨p,3,none⟩=some (.int .i64 syn)∧∀ j,u.frozen? ⟨p,j,none⟩=false :=
 ⟨h.lt,cell_of_row _ _ 0 _ _ _ h,cell_of_row _ _ 1 _ _ _ h,cell_of_row _ _ 2 _ _ _ h,cell_of_row _ _ 3 _ _ _ h,fun j=>frozen_of_row _ _ j _ _ h⟩
theorem ba.new (w:World) (r:ByteArray) (v:Value) (log:ByteArray) (syn:Int):ba (w.alloc (.cells #[.string r,v,.string log,.int .i64 syn] 25)) w.heap.size r v log syn:=heap_alloc_new w _
theorem Wx {w u:World} {p:Nat} {a b c d:Value}(h:Below w.heap.size w u) (hp:w.heap.size≤p):Below w.heap.size w ((((u.setCell ⟨p,0,none⟩ a).setCell ⟨p,1,none⟩ b).setCell ⟨p,2,none⟩ c).setCell ⟨p,3,none⟩ d) :=
 (((h.setCell (p:=⟨p,0,none⟩) hp _).setCell (p:=⟨p,1,none⟩) hp _).setCell (p:=⟨p,2,none⟩) hp _).setCell (p:=⟨p,3,none⟩) hp _
theorem Wz (u:World) (p:Nat) (a b c d:Value):u.grownBy ((((u.setCell ⟨p,0,none⟩ a).setCell ⟨p,1,none⟩ b).setCell ⟨p,2,none⟩ c).setCell ⟨p,3,none⟩ d) (some p) :=
 (((gr7 u p 0 a).trans (gr7 _ p 1 b)).trans (gr7 _ p 2 c)).trans (gr7 _ p 3 d)
where
 gr7 (w:World) (g k:Nat) (u:Value):w.grownBy (w.setCell ⟨g,k,none⟩ u) (some g) :=
  ⟨rfl,rfl,rfl,by simp,fun i hi hn=>heap_setCell_other _ ⟨g,k,none⟩ i _ (fun e=>hn (by rw[e]))⟩
theorem Rv {w:World} {B p:Nat} {v:Value} {ss:List ByteArray} {r:ByteArray} {x:Value} {log:ByteArray} {syn:Int}(h:ak w B v ss) (hb:ba w p r x log syn):v.ownBlock=none∨v.ownBlock≠some p:=by
 rcases h.2 with ⟨rfl,_⟩|⟨g,cap,cur,rfl,_,hg,_⟩
 .exact .inl rfl
 .refine .inr fun e=>?_
  have e2:g=p:=Option.some.inj e;subst e2;unfold ba at hb;rw[hg]at hb;injection hb with q1;injection q1 with _ q2;exact absurd q2 (by decide)
theorem kq {u:World} {B B':Nat} {v:Value} {ss:List ByteArray}(h:ak u B' v ss) (hB:B≤B'):ak u B v ss:=by
 refine⟨h.1,?_⟩;rcases h.2 with h0|⟨g,cap,cur,q1,q2,q3⟩
 .exact .inl h0
 .exact .inr ⟨g,cap,cur,q1,Nat.le_trans hB q2,q3⟩
def ax9 (W:World) (B:Nat) (ss:List ByteArray) (v i:Value) (wr:World):Prop :=
 ∃ k:Nat,k≤ss.length∧i=.int .i64 (k:Int)∧ak wr B v (ss.take k)∧Below W.heap.size W wr
theorem Xj {ss:List ByteArray} {k:Nat} {s:ByteArray}(h:ss[k]? = some s):ss.take (k+1)=ss.take k++[s]:=by rw[List.take_add_one,h];rfl
theorem Mj {w:World} {B:Nat} {vp:Value} {ss:List ByteArray}(r log:ByteArray) (syn:Int) (hS:ak w B vp ss) (hz:∀ s ∈ ss,s.size≤1048576) (hl:ss.length≤1048576) (hr:r.size≤1048576) (aA:log.size≤1048576) :
  Calls prog 88 #[.agg #[.string r,vp,.string log,.int .i64 syn]] w fun e w'=>∃ v',e=.returned (.agg #[.string r,v',.string log,.int .i64 syn])∧ak w' w.heap.size v' ss∧Below w.heap.size w w':=by
 obtain⟨a,c,rfl,hq⟩:=js hS;obtain⟨i1,hi1,aC,aD,aE⟩:=info_parts Kb;obtain⟨W,hW⟩:∃ W,W=(w.alloc (.cells #[.string r,.slice a ss.length c,.string log,.int .i64 syn] 25)).alloc (.cells #[.string ⟨#[]⟩,.slice none 0 0,.string ⟨#[]⟩,.int .i64 0] 25):=⟨_,rfl⟩
 have a9:Below w.heap.size w W:=by rw[hW];exact (bY _).alloc (by simp) _
 have aI:W.heap.size=w.heap.size+2:=by rw[hW];simp
 have aa:ba W w.heap.size r (.slice a ss.length c) log syn:=by
  show _=_
  rw[hW,Below.heap_alloc _ _ _ (by simp)];exact heap_alloc_new w _
 have af:ba W (w.heap.size+1) ⟨#[]⟩ (.slice none 0 0) ⟨#[]⟩ 0:=by
  have h:=heap_alloc_new (w.alloc (.cells #[.string r,.slice a ss.length c,.string log,.int .i64 syn] 25)) (.cells #[.string ⟨#[]⟩,.slice none 0 0,.string ⟨#[]⟩,.int .i64 0] 25);rw[World.size_alloc]at h;show _=_
  rw[hW];exact h
 have ar:Hid (ba W w.heap.size r (.slice a ss.length c) log syn):=aa;have au:Hid (ba W (w.heap.size+1) ⟨#[]⟩ (.slice none 0 0) ⟨#[]⟩ 0):=af;have ac:Hid (Below w.heap.size w W):=a9;have HQ:Hid (∀ (j:Nat) (s:ByteArray),ss[j]? = some s→∃ g,a=some ⟨g,0,none⟩∧∀ w',Below W.heap.size W w'→∀ (j:Nat) (s:ByteArray),ss[j]? = some s→w'.cell? ⟨g,j,none⟩=some (.string s)):=fun j s hs=>by
  obtain⟨g,h1,h2⟩:=hq j s hs;exact⟨g,h1,fun w' hw'=>h2 w' (a9.trans (hw'.mono (by omega)))⟩
 have HC:Hid (∀ (s:ByteArray) (u:World),s.size≤1048576→Calls prog 123 #[.string s] u fun e w'=>e=.returned (.string s)∧Below u.heap.size u w'):=fun s u hs=>Jm s u hs
 have HZ:Hid (∀ s ∈ ss,s.size≤1048576):=hz;have HW:Hid (W=(w.alloc (.cells #[.string r,.slice a ss.length c,.string log,.int .i64 syn] 25)).alloc (.cells #[.string ⟨#[]⟩,.slice none 0 0,.string ⟨#[]⟩,.int .i64 0] 25)):=hW;obtain⟨p1,al,am,an,ao,ap⟩:=aa.facts;clear hS hq hz aa af a9 hW;go_enter func88,ntmps88;go_wp2_with fail;rw[<- HW.out];clear HW;go_wp2_with fail;go_loopw [3,9] (fun v i wr=>ax9 W W.heap.size ss v i wr) (fun _ i _=>ss.length-(intOf i).toNat)
 case atStart=>exact⟨0,Nat.zero_le _,rfl,World.ownsRow_nil _ _ _ _,bX⟩
 case round =>
  clear p1 al am an ao ap;obtain⟨k,hk,rfl,hS,hb⟩:=hrel;have HS:Hid (ak wr W.heap.size u3 (ss.take k)):=hS;have HB:Hid (Below W.heap.size W wr):=hb;have aF:=hb.size;clear hS hb;by_cases aj:k<ss.length
  .obtain⟨s,hs⟩:∃ s,ss[k]? = some s:=by exact⟨_,List.getElem?_eq_getElem aj⟩
   obtain⟨g,rfl,ah⟩:=HQ.out k s hs;have e0:=ah wr HB.out k s hs;have az:=ag e0;have aG:(k:Int)<(ss.length:Int):=by omega
   have C:=HC.out s wr (HZ.out s (List.mem_of_getElem? hs));have HT:Hid (ss.take (k+1)=ss.take k++[s]):=Xj hs;have a6:(ss.take k).length=k:=by rw[List.length_take];omega
   clear ah hs;go_wp2_with fail;refine C.mono ?_;rintro e w2 ⟨rfl,b2⟩;have ad:Hid (ak w2 W.heap.size u3 (ss.take k)):=HS.out.below b2;have a7:Hid (Below W.heap.size W w2):=HB.out.trans (b2.mono HB.out.size);have aH:=a7.out.size;have bA:=(Below.refl w2.heap.size w2).alloc bR (.cells #[.string s] 9);have a4:=ad.out.below bA;have ae:Hid (ak (w2.alloc (.cells #[.string s] 9)) W.heap.size u3 (ss.take k)):=a4;have a8:Hid (Below W.heap.size W (w2.alloc (.cells #[.string s] 9))):=a7.out.trans (bA.mono a7.out.size);unfold ak at a4;rw[a6]at a4;clear C b2 bA HS HB e0 az ad a7
   go_wp2_with (at_builtin;refine wpList_append_own _ rfl _ _ 23 rfl W.heap.size 9 i1 (.string ⟨#[]⟩) 1 16 underlying23 hi1 aC aD aE rfl (by decide) _ _ _ rfl a4 ⟨_,0,none⟩ 1 1 [.string s] rfl rfl (cell_one_new _ _ _) (fun x hx=>by simp at hx;subst hx;rfl) (by unfold maxLen;omega) (by omega) (by simp;omega) ?_;intro v4 w4 a1 ai _)
   have ax:Hid (ak w4 W.heap.size v4 (ss.take k++[s])):=ak.snoc (by rw[a6];exact a1);have aq:Hid (Below W.heap.size W w4):=Below.grown a8.out ai a8.out.size (fun j hj=>(World.ownsRow.lt ae.out j hj).1);clear a1 ai ae a8 a4;go_wp2;exact⟨⟨k+1,by omega,by go_num,by rw[HT.out];exact ax.out,aq.out⟩,by simp[intOf];omega⟩
  .obtain rfl:k=ss.length:=by omega
   have hS:=HS.out;rw[List.take_length]at hS;obtain⟨a5,c5,aB,_⟩:=js hS;subst aB;have ay:Hid (ak wr W.heap.size (.slice a5 ss.length c5) ss):=hS;have a2:Hid (ba wr w.heap.size r (.slice a ss.length c) log syn):=ar.out.below HB.out;have a0:Hid (ba wr (w.heap.size+1) ⟨#[]⟩ (.slice none 0 0) ⟨#[]⟩ 0):=au.out.below HB.out;obtain⟨p1,al,am,an,ao,ap⟩:=a2.out.facts;obtain⟨q1,aJ,aK,aL,aM,aN⟩:=a0.out.facts;have CR:=fun u=>HC.out r u hr
   have CL:=fun u=>HC.out log u aA
   clear hS HS aj hk;go_wp2_with fail;go_region_law (first
    | (go_simp;go_at_call 123;refine (CR _).mono ?_;rintro e w5 ⟨rfl,b5⟩;have z5:Below wr.heap.size wr w5:=⟨b5.os,b5.tape,b5.output,b5.size,b5.block⟩;obtain⟨r1,aO,aP,aQ,aR,aS⟩:=(a2.out.below z5).facts;obtain⟨s1,aT,aU,aV,aW,aX⟩:=(a0.out.below z5).facts)
    | (go_simp;go_at_call 123;refine (CL _).mono ?_;rintro e w6 ⟨rfl,b6⟩;have z6:Below w5.heap.size w5 w6:=⟨b6.os,b6.tape,b6.output,b6.size,b6.block⟩;have y6:Below wr.heap.size wr w6:=z5.trans (z6.mono z5.size);obtain⟨t1,aY,aZ,b0,b1,b3⟩:=(a2.out.below y6).facts;obtain⟨v1,b4,b7,b8,b9,bb⟩:=(a0.out.below y6).facts))
   all_goals
    have ab:=ay.out.below y6;have aw:Hid (ak ((((w6.setCell ⟨w.heap.size+1,0,none⟩ (.string r)).setCell ⟨w.heap.size+1,1,none⟩ (.slice a5 ss.length c5)).setCell ⟨w.heap.size+1,2,none⟩ (.string log)).setCell ⟨w.heap.size+1,3,none⟩ (.int .i64 syn)) w.heap.size (.slice a5 ss.length c5) ss):=kq (World.ownsRow.kept ab (Wz w6 (w.heap.size+1) _ _ _ _) (Rv ab (a0.out.below y6))) (by omega);have a3:Hid (Below w.heap.size w ((((w6.setCell ⟨w.heap.size+1,0,none⟩ (.string r)).setCell ⟨w.heap.size+1,1,none⟩ (.slice a5 ss.length c5)).setCell ⟨w.heap.size+1,2,none⟩ (.string log)).setCell ⟨w.heap.size+1,3,none⟩ (.int .i64 syn))):=Wx (ac.out.trans ((HB.out.trans (y6.mono HB.out.size)).mono ac.out.size)) (by omega);clear ab;go_wp2
    refine bodyPost_ret (v:=.agg #[.string r,.slice a5 ss.length c5,.string log,.int .i64 syn]) ?_ rfl ⟨_,rfl,aw.out,⟨a3.out.os,a3.out.tape,a3.out.output,a3.out.size,a3.out.block⟩⟩;rw[av rfl];go_simp
end Go.Proofs.YtjbmgghehdemdaaGreatDoor
