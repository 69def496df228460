/- IApart -/
import Derived.Test.YtjbmgghehdemdaaGreatDoorMT4
import Derived.Test.YtjbmgghehdemdaaGreatDoorMT3
import Derived.Test.YtjbmgghehdemdaaGreatDoorMT7
import Derived.Deep.RegionHeld
namespace Go.Proofs.YtjbmgghehdemdaaGreatDoor
set_option maxRecDepth 100000
set_option maxHeartbeats 16000000
open _root_.Go.Proofs.Tryz
open Go.RowKit
theorem yf (w:World) (o:Obj) (zs:List Int) (n B:Nat) (hn:zs.length=n) (hz:n≤maxLen) (cs:Array Value) (a0:cs=(zs.map (Value.int .i64)).toArray) (hB:B≤w.heap.size):ab ((w.alloc o).alloc (.cells cs 3)) B (.slice (some ⟨w.heap.size+1,0,none⟩) n n) zs:=by
 subst hn;exact f3 zs a0 (heap_alloc2_new w o _) (by omega) hz
theorem Pk (w:World) (r:Int) (h1:44032≤r) (h2:r≤55203) :
  Calls prog 231 #[.int .i64 (r-44032)] w fun e w'=>∃ v,e=.returned v∧ab w' w.heap.size v (apart r)∧Below w.heap.size w w':=by
 have ha:=Da h1 h2;obtain⟨s,hs⟩:∃ s,r-44032=s:=⟨_,rfl⟩
 have h0:0≤s:=by omega
 have h3:s≤11171:=by omega
 rw[hs]at ha ⊢;by_cases c:0<s % 28
 .have HA:Hid (apart r=[4352+s / 588,4449+s % 588 / 28,4519+s % 28]):=by show _=_;rw[ha,if_pos c];rfl
  have c2:(s % 28 == 0)=false:=by simp;omega
  clear ha hs;go_enter func231,ntmps231;go_wp2;go_ret;rw[HA.out];exact⟨_,rfl,qh w _ 3 rfl (by unfold maxLen;omega) _ rfl,bY _⟩
 .have HA:Hid (apart r=[4352+s / 588,4449+s % 588 / 28]):=by show _=_;rw[ha,if_neg c];rfl
  have c2:(s % 28 == 0)=true:=by simp;omega
  clear ha hs;go_enter func231,ntmps231;go_wp2;go_ret;rw[HA.out];exact⟨_,rfl,qh w _ 2 rfl (by unfold maxLen;omega) _ rfl,bY _⟩
def zk (r:Int):List Int:=if bp r=true then apart r else []
theorem Bn (r:Int) (w:World) (hc:db w 10 yw) (ho:db w 11 xq) :
  Calls prog 224 #[.int .i64 r] w fun e w'=>∃ v,e=.returned v∧ab w' w.heap.size v (zk r)∧Below w.heap.size w w':=by
 unfold zk
 cases hg:bp r
 .have P:=fun w=>Eq r hg w
  rw[if_neg (by simp)];clear hg;go_enter func224,ntmps224;go_wp2_with (go_at_call 223;refine (P _).mono ?_;rintro e w1 ⟨rfl,rfl⟩)
  go_ret;exact⟨_,rfl,⟨rfl,.inl ⟨rfl,rfl⟩⟩,bX⟩
 .have P:=fun w=>Ce r hg w
  rw[if_pos rfl];have a1:=l7 hg;clear hg;by_cases e1:r=8491
  .subst e1
   have ha:apart 8491=[197]:=by decide
   rw[ha];go_enter func224,ntmps224;go_wp2_with (go_at_call 223;refine (P _).mono ?_;rintro e w1 ⟨rfl,rfl⟩)
   go_ret;exact⟨_,rfl,qh _ [197] 1 rfl (by unfold maxLen;omega) _ rfl,bY _⟩
  .have a2:(r == 8491)=false:=by simpa using e1
   by_cases e2:44032≤r∧r≤55203
   .obtain⟨s1,s2⟩:=e2
    have SA:=fun w=>Pk w r s1 s2
    clear hc ho a1 e1;go_enter func224,ntmps224;go_wp2_with fail;refine (P _).mono ?_;rintro e w1 ⟨rfl,rfl⟩;go_wp2_with fail;refine (SA _).mono ?_;rintro e w2 ⟨v,rfl,hI,hb⟩;go_wp2;go_ret;exact⟨_,rfl,hI,hb⟩
   .have PR:=fun w hc ho=>Ne r w hc ho
    have HA:Hid (apart r=match o5.find? (fun t=>at0 t 0 == r) with|some t=>[at0 t 1,at0 t 2]|none=>[r]):=by
     show _=_
     rw[Xg];unfold apart;rw[if_neg e1,if_neg e2];rfl
    have e3:(decide (44032≤r) && decide (r≤55203))=false:=by
     cases h:(decide (44032≤r) && decide (r≤55203)) with
     | false=>rfl
     | true=>simp at h;exact absurd h e2
    generalize o5.find? (fun t=>at0 t 0 == r)=o at *;have a0:∀ {w1:World},db w1 10 yw→db w1 11 xq→Hid (Calls prog 232 #[.int .i64 r] w1 fun e w'=>e=.returned (qq o)∧Below w1.heap.size w1 w'):=fun a b=>PR _ a b
    clear PR e1 a1;by_cases q:44032≤r
    .have q2:¬ r≤55203:=fun h=>e2 ⟨q,h⟩
     clear e2 e3;go_enter func224,ntmps224;go_wp2_with fail;refine (P _).mono ?_;rintro e w1 ⟨rfl,rfl⟩;go_wp2_with fail;refine ((a0 hc ho).out).mono ?_;rintro e w2 ⟨rfl,hb⟩
     cases o with
     | none =>
      simp only[qq,pv,Option.getD,Option.isSome];go_wp2;go_ret;rw[HA.out];exact⟨_,rfl,yf _ _ [r] 1 _ rfl (by unfold maxLen;omega) _ rfl hb.size,((hb.alloc hb.size _).alloc (hb.alloc hb.size _).size _)⟩
     | some t =>
      simp only[qq,pv,Option.getD,Option.isSome];go_wp2;go_ret;rw[HA.out];exact⟨_,rfl,yf _ _ [at0 t 1,at0 t 2] 2 _ rfl (by unfold maxLen;omega) _ rfl hb.size,((hb.alloc hb.size _).alloc (hb.alloc hb.size _).size _)⟩
    .clear e2 e3
     go_enter func224,ntmps224;go_wp2_with fail;refine (P _).mono ?_;rintro e w1 ⟨rfl,rfl⟩;go_wp2_with fail;refine ((a0 hc ho).out).mono ?_;rintro e w2 ⟨rfl,hb⟩
     cases o with
     | none =>
      simp only[qq,pv,Option.getD,Option.isSome];go_wp2;go_ret;rw[HA.out];exact⟨_,rfl,yf _ _ [r] 1 _ rfl (by unfold maxLen;omega) _ rfl hb.size,((hb.alloc hb.size _).alloc (hb.alloc hb.size _).size _)⟩
     | some t =>
      simp only[qq,pv,Option.getD,Option.isSome];go_wp2;go_ret;rw[HA.out];exact⟨_,rfl,yf _ _ [at0 t 1,at0 t 2] 2 _ rfl (by unfold maxLen;omega) _ rfl hb.size,((hb.alloc hb.size _).alloc (hb.alloc hb.size _).size _)⟩
def Own (w:World) (B g cap n:Nat) (l:List Int):Prop:=w.ownsRow B 3 1 (.slice (some ⟨g,0,none⟩) n cap) n (l.map (Value.int .i64))
theorem Own.len {w:World} {B g cap n:Nat} {l:List Int}(h:Own w B g cap n l):l.length=n:=by simpa using h.1
theorem Own.cell {w:World} {B g cap n:Nat} {l:List Int}(h:Own w B g cap n l) (j:Nat) (hj:j<n):w.cell? ⟨g,j,none⟩=some (.int .i64 (at0 l j)):=by
 have h1:=World.ownsRow.cellAt h j (by omega);rw[h1];have:=h.len;simp[at0,show j<l.length by omega]
theorem nh {w w':World}(hb:Below w.heap.size w w') (row:Option Nat):w.grownBy w' row:=⟨hb.os,hb.tape,hb.output,hb.size,fun k hk _=>hb.block k hk⟩
theorem Ao (w:World) (row:Option Nat):w.grownBy w row:=⟨rfl,rfl,rfl,bR,fun _ _ _=>rfl⟩
theorem Own.below {w w':World} {B g cap n:Nat} {l:List Int}(h:Own w B g cap n l) (hb:Below w.heap.size w w'):Own w' B g cap n l :=
 World.ownsRow.kept h (row:=none) (nh hb none) (by cases hx:(Value.slice (some ⟨g,0,none⟩) n cap).ownBlock <;> simp)
theorem Ve {w w':World} {g h:Nat} {zs:List Int}(hh:db w h zs) (hg:w.grownBy w' (some g)) (a0:h≠g):db w' h zs:=by
 obtain⟨t,fr,e⟩:=hh;refine⟨t,fr,?_⟩;rw[hg.block h ((Array.getElem?_eq_some_iff.1 e).1) (fun e=>a0 (Option.some.inj e))];exact e
def SH (w:World) (B g cap n:Nat) (l:List Int) (w':World):Prop:=Own w' B g cap n l∧w.grownBy w' (some g)∧db w' 7 ij
theorem SH.below {w w1 w2:World} {B g cap n:Nat} {l:List Int}(hb:Below w1.heap.size w1 w2) (h:SH w B g cap n l w1):SH w B g cap n l w2 :=
 ⟨h.1.below hb,h.2.1.trans (nh hb _),h.2.2.below hb h.2.2.lt⟩
theorem SH.drew {w w1:World} {B g cap n:Nat} {l:List Int}(h:SH w B g cap n l w1):SH w B g cap n l w1.drew:=h.below (bX.drew)
theorem SH.cell {w w1:World} {B g cap n:Nat} {l:List Int}(h:SH w B g cap n l w1) (j:Nat) (hj:j<n):w1.cell? ⟨g,j,none⟩=some (.int .i64 (at0 l j)):=h.1.cell j hj
theorem Vk {w w1 w2:World} {B g cap n i j:Nat} {l:List Int}(hi:i<n) (hj:j<n) (hb:Below w1.heap.size w1 w2) (h:w1.cell? ⟨g,i,none⟩=some (.int .i64 (at0 l i))∧w1.cell? ⟨g,j,none⟩=some (.int .i64 (at0 l j))∧SH w B g cap n l w1) :
  w2.cell? ⟨g,i,none⟩=some (.int .i64 (at0 l i))∧w2.cell? ⟨g,j,none⟩=some (.int .i64 (at0 l j))∧SH w B g cap n l w2 :=
 ⟨(h.2.2.below hb).cell i hi,(h.2.2.below hb).cell j hj,h.2.2.below hb⟩
theorem aq5 {w w1:World} {B g cap n:Nat} {l:List Int}(hB:7<B) (h:SH w B g cap n l w1) (i j:Nat) :
  SH w B g cap n ((l.set i (at0 l j)).set j (at0 l i)) ((w1.setCell ⟨g,i,none⟩ (.int .i64 (at0 l j))).setCell ⟨g,j,none⟩ (.int .i64 (at0 l i))):=by
 have h1:=World.ownsRow.stored h.1 i (.int .i64 (at0 l j));have h2:=World.ownsRow.stored h1.1 j (.int .i64 (at0 l i));have e3:((l.map (Value.int .i64)).set i (.int .i64 (at0 l j))).set j (.int .i64 (at0 l i))=((l.set i (at0 l j)).set j (at0 l i)).map (Value.int .i64):=by simp[List.map_set]
 have h3:=h2.1;rw[e3]at h3;have hg:=h1.2.trans h2.2;have a0:7≠g:=fun e=>by
  have:=(World.ownsRow.lt h.1 g rfl).1;omega
 exact⟨h3,h.2.1.trans hg,Ve h.2.2 hg a0⟩
def b23 (w:World) (B g cap n f m:Nat) (l:List Int) (i:Value) (wr:World):Prop:=∃ k:Nat,k≤m∧i=.int .i64 k∧SH w B g cap n (uv f l k) wr
def SIn (w:World) (B g cap n f m:Nat) (goal:List Int) (i:Value) (wr:World):Prop:=∃ (j:Nat) (l:List Int),j<m∧i=.int .i64 j∧SH w B g cap n l wr∧uq f l j=goal
theorem Id (w:World) (B g cap n f m c:Nat) (l:List Int) (a2:Own w B g cap n l) (hB:7<B) (hf:f+m≤n) (hn:n≤1048576) (hm:db w 7 ij) :
  Calls prog 225 #[.slice (some ⟨g,f,none⟩) m c,.func (.func 213) #[] #[]] w fun e w'=>e=.returned (.tuple #[])∧SH w B g cap n (uv f l m) w':=by
 go_enter func225,ntmps225;go_wp2;go_loopw [8] (fun i wr=>b23 w B g cap n f m l i wr) (fun i _=>m-(intOf i).toNat)
 case atStart=>exact⟨0,Nat.zero_le _,rfl,a2,Ao _ _,hm⟩
 case round =>
  clear a2 hm;obtain⟨k,hk,rfl,a0⟩:=hrel;by_cases a8:k<m
  .go_wp2_with fail
   go_loopw [5] (fun i wr=>SIn w B g cap n f m (uv f l (k+1)) i wr) (fun i _=>(intOf i).toNat)
   case atStart=>exact⟨k,uv f l k,a8,rfl,a0,rfl⟩
   case round =>
    clear a0;obtain⟨j,l1,hj,rfl,a0,a1⟩:=hrel;have HG:Hid _:=a1;clear a1
    cases j with
    | zero =>
     go_wp2;go_quiet (fail)
     go_wp2;have he:l1=uv f l (k+1):=HG.out;subst he;exact⟨⟨k+1,by omega,by go_num,a0.below (below_drewN bX _)⟩,by simp[intOf];omega⟩
    | succ p =>
     have a3:f+p<n:=by omega
     have a4:f+(p+1)<n:=by omega
     have ac:p<m:=by omega
     have ad:IntKind.i64.wrap ((p:Int)+1-1)=(p:Int):=by rw[IntKind.wrap_i64];omega
     have ae:IntKind.i64.wrap (((p+1:Nat):Int)-1)=(p:Int):=by rw[IntKind.wrap_i64];omega
     have af:IntKind.i64.wrap (p:Int)=(p:Int):=by rw[IntKind.wrap_i64];omega
     have aa:(p:Int)<(m:Int):=by omega
     have ab:(p:Int)+1<(m:Int):=by omega
     have hS:wr.cell? ⟨g,f+p,none⟩=some (.int .i64 (at0 l1 (f+p)))∧wr.cell? ⟨g,f+(p+1),none⟩=some (.int .i64 (at0 l1 (f+(p+1))))∧SH w B g cap n l1 wr:=⟨a0.cell _ a3,a0.cell _ a4,a0⟩;have a5:=Vk a3 a4 ((Below.refl wr.heap.size wr).drew) hS;go_wp2_with fail;go_region_held (fun w'=>w'.cell? ⟨g,f+p,none⟩=some (.int .i64 (at0 l1 (f+p)))∧w'.cell? ⟨g,f+(p+1),none⟩=some (.int .i64 (at0 l1 (f+(p+1))))∧SH w B g cap n l1 w')
      (first|exact a5|exact Vk a3 a4 (by assumption) (by assumption)|exact Vk a3 a4 (by assumption) ⟨by assumption,by assumption,by assumption⟩)
      (first|(go_at_call 213;refine (nj _ _ ?_).mono ?_;(first|exact (show SH w B g cap n l1 _ by assumption).2.2|exact (show _∧_∧SH w B g cap n l1 _ by assumption).2.2.2.2);rintro e w' ⟨rfl,a9⟩))
     all_goals
      have hE:SH w B g cap n l1 w':=(show w'.cell? ⟨g,f+p,none⟩=_∧_∧SH w B g cap n l1 w' by assumption).2.2;clear hS a5 a0;by_cases cc:cls (at0 l1 (f+(p+1)))<cls (at0 l1 (f+p))
      .have a6:Hid (uq f ((l1.set (f+p) (at0 l1 (f+(p+1)))).set (f+(p+1)) (at0 l1 (f+p))) p=uv f l (k+1)):=(Sh f l1 p cc).symm.trans HG.out
       have HW:=aq5 hB hE (f+p) (f+(p+1));have e1:=hE.cell _ a3;have e2:=hE.cell _ a4;have f1:=World.ownsRow.frozenAt hE.1 (f+p);have f2:=World.ownsRow.frozenAt hE.1 (f+(p+1));clear HG hE;go_wp2_with fail;go_region
       all_goals go_wp2
       all_goals exact⟨⟨p,_,by omega,rfl,SH.drew HW,a6.out⟩,by simp[intOf]⟩
      .have he:l1=uv f l (k+1):=(Jh f l1 p cc).symm.trans HG.out
       clear HG;go_wp2;subst he;exact⟨⟨k+1,by omega,by go_num,hE⟩,by simp[intOf];omega⟩
  .have a7:k=m:=by omega
   subst a7;go_wp2;go_end0
   exact⟨rfl,a0⟩
theorem SH.from {w w1 w2:World} {B g cap n:Nat} {l l':List Int}(h:SH w B g cap n l w1) (k:SH w1 B g cap n l' w2):SH w B g cap n l' w2:=⟨k.1,h.2.1.trans k.2.1,k.2.2⟩
theorem Fa (w:World) (a:Option Addr) (c:Nat):Calls prog 225 #[.slice a 0 c,.func (.func 213) #[] #[]] w fun e w'=>e=.returned (.tuple #[])∧w'=w:=by
 go_enter func225,ntmps225;go_wp2;go_loop [8] (fun i=>i=.int .i64 0) (fun _=>0)
 case atStart=>rfl
 case round =>
  subst hrel;go_wp2;go_end0
  exact⟨rfl,rfl⟩
theorem D7 (w:World):Calls prog 212 #[.slice none 0 0] w fun e w'=>e=.returned (.tuple #[])∧w'=w:=by
 have SB:=fun w a c=>Fa w a c
 go_enter func212,ntmps212;go_wp2;go_loop [2,7] (fun f i=>f=.int .i64 0∧i=.int .i64 0) (fun _ _=>0)
 case atStart=>exact⟨rfl,rfl⟩
 case round =>
  obtain⟨rfl,rfl⟩:=hrel;go_wp2_with (go_at_call 225;refine (SB _ _ _).mono ?_;rintro e w1 ⟨rfl,rfl⟩)
  go_end0
  exact⟨rfl,rfl⟩
def b22 (w:World) (B g cap n:Nat) (zs:List Int) (fv i:Value) (wr:World):Prop :=
 ∃ f a:Nat,f≤a∧a≤n∧fv=.int .i64 f∧i=.int .i64 a∧SH w B g cap n (srt zs f) wr∧(∀ j,f≤j→j<a→0<cls (at0 zs j))∧(f=0∨cls (at0 (srt zs f) (f-1))=0)
theorem Pc (w:World) (B g cap n:Nat) (zs:List Int) (a1:Own w B g cap n zs) (hB:7<B) (hn:n≤1048576) (hm:db w 7 ij) :
  Calls prog 212 #[.slice (some ⟨g,0,none⟩) n cap] w fun e w'=>e=.returned (.tuple #[])∧SH w B g cap n (mc zs) w':=by
 have a3:zs.length=n:=a1.len;have a7:n≤cap∧cap≤maxLen:=by
  rcases a1.2 with ⟨h,_⟩|⟨g',ae,cur,h,_,_,h2,h3,_⟩
  .cases h
  .injection h with _ _ h4;subst h4;exact⟨h2,h3⟩
 obtain⟨an,af⟩:=a7;unfold maxLen at af;go_enter func212,ntmps212;go_wp2;go_loopw [2,7] (fun fv i wr=>b22 w B g cap n zs fv i wr) (fun _ i _=>n-(intOf i).toNat)
 case atStart=>exact⟨0,0,bR,Nat.zero_le _,rfl,rfl,⟨a1,Ao _ _,hm⟩,fun j _ hj=>by omega,.inl rfl⟩
 case round =>
  clear a1 hm;obtain⟨f,a,ai,am,rfl,rfl,a0,a9,aa⟩:=hrel;have HM:Hid _:=a9;have HP:Hid (f=0∨cls (at0 (srt zs f) (f-1))=0):=aa;clear a9 aa;by_cases aj:a<n
  .have c0:=a0.cell a aj
   rw[yo zs f a ai]at c0;have CC:=nj (at0 zs a) wr a0.2.2;generalize hx:at0 zs a=x at *;have ak:(a:Int)<(n:Int):=by omega
   go_wp2_with fail;refine CC.mono ?_;rintro e w1 ⟨rfl,a6⟩;have a4:=a0.below a6;clear CC c0;by_cases e:cls x=0
   .have e':(cls x == 0)=true:=by simpa using e
    have SB:=Id w1 B g cap n f (a-f) (cap-f) (srt zs f) a4.1 hB (by omega) hn a4.2.2;have ah:(f:Int)≤(a:Int):=by omega
    have al:(a:Int)≤(cap:Int):=by omega
    have HS:=Ph (f:=f) (a-f) zs (by omega) HP.out (fun j h1 h2=>HM.out j h1 (by omega));rw[show f+(a-f)=a by omega]at HS;have HN:Hid (uv f (srt zs f) (a-f)=srt zs (a+1)):=by
     show _=_
     rw[HS.1,Fc zs a (by rw[hx];exact e)]
    have HQ:Hid (a+1=0∨cls (at0 (srt zs (a+1)) (a+1-1))=0):=by
     refine .inr ?_;rw[Fc zs a (by rw[hx];exact e),Nat.add_sub_cancel,yo zs a a bR,hx];exact e
    clear a0 HS HM HP e hx;go_wp2_with fail;refine SB.mono ?_;rintro e w2 ⟨rfl,a2⟩;rw[HN.out]at a2;have a8:=a4.from a2
    clear SB HN a4 a2 a6;go_wp2;exact⟨⟨a+1,a+1,bR,by omega,by go_num,by go_num,a8,fun j h1 h2=>by omega,HQ.out⟩,by simp[intOf];omega⟩
   .have e':(cls x == 0)=false:=by simpa using e
    have ad:Hid (∀ j,f≤j→j<a+1→0<cls (at0 zs j)):=fun j h1 h2=>by
     by_cases ej:j=a
     .subst ej;rw[hx];have:=(Yf x).1;omega
     .exact HM.out j h1 (by omega)
    clear a0 HM e hx a6;go_wp2;exact⟨⟨f,a+1,by omega,by omega,by go_num,by go_num,a4,ad.out,HP.out⟩,by simp[intOf];omega⟩
  .have a5:a=n:=by omega
   subst a5;have SB:=Id wr B g cap a f (a-f) (cap-f) (srt zs f) a0.1 hB (by omega) hn a0.2.2;have HS:=Ph (f:=f) (a-f) zs (by omega) HP.out (fun j h1 h2=>HM.out j h1 (by omega));rw[show f+(a-f)=a by omega]at HS;have HN:Hid (uv f (srt zs f) (a-f)=mc zs):=by
    show _=_
    rw[HS.1,mc,a3]
   have ah:(f:Int)≤(a:Int):=by omega
   by_cases ag:cap=f
   .have ac:a=f:=by omega
    have HE:Hid (srt zs f=mc zs):=by
     show _=_
     rw[mc,a3,ac]
    clear HS HM HP SB HN;subst ac;subst ag;have ab:=Fa wr (some ⟨g,0,none⟩) 0;go_wp2_with fail;refine ab.mono ?_;rintro e w2 ⟨rfl,rfl⟩;rw[HE.out]at a0;clear ab HE;go_wp2;go_end0
    exact⟨rfl,a0⟩
   .clear HS HM HP
    go_wp2_with fail;refine SB.mono ?_;rintro e w2 ⟨rfl,a2⟩;rw[HN.out]at a2;have a8:=a0.from a2
    clear SB HN a0 a2;go_wp2;go_end0
    exact⟨rfl,a8⟩
theorem ad4 {zs:List Int}(h:200<zs.length):okR zs=false:=decide_eq_false fun c=>by omega
theorem ao9 {zs:List Int} {x:Int}(hx:x ∈ zs) (h:bp x=false):okR zs=false:=decide_eq_false fun c=>by
 have:=c.2 x hx;rw[h]at this;cases this
theorem Hi (w:World) (a:Option Addr) (c:Nat):Calls prog 210 #[.slice a 0 c] w fun e w'=>e=.returned (.bool true)∧w'=w:=by
 go_enter func210,ntmps210;go_wp2;go_loop [10] (fun i=>i=.int .i64 0) (fun _=>0)
 case atStart=>rfl
 case round =>
  subst hrel;go_wp2;go_ret;exact⟨rfl,rfl⟩
theorem V8 (w:World) (a:Option Addr) (n c:Nat) (h:200<n):Calls prog 210 #[.slice a n c] w fun e w'=>e=.returned (.bool false)∧w'=w:=by
 have h2:(200:Int)<(n:Int):=by omega
 go_enter func210,ntmps210;go_wp2;go_ret;exact⟨rfl,rfl⟩
theorem Ze (w:World) (g cap:Nat) (zs:List Int) (hz:zs.length≤200)
  (hc:∀ j,j<zs.length→w.cell? ⟨g,j,none⟩=some (.int .i64 (zs[j]?.getD 0))) :
  Calls prog 210 #[.slice (some ⟨g,0,none⟩) zs.length cap] w fun e w'=>e=.returned (.bool (okR zs))∧w'=w:=by
 have a2:¬ (200:Int)<(zs.length:Int):=by omega
 go_enter func210,ntmps210;go_wp2;go_loop [10] (fun i=>∃ k:Nat,k≤zs.length∧i=.int .i64 k∧Hid (A5 zs k)) (fun i=>zs.length-(intOf i).toNat)
 case atStart=>exact⟨0,Nat.zero_le _,rfl,fun j x hj=>by omega⟩
 case round =>
  obtain⟨k,hk,rfl,HG⟩:=hrel;by_cases a0:k<zs.length
  .obtain⟨x,hx⟩:∃ x,zs[k]? = some x:=⟨_,List.getElem?_eq_getElem a0⟩
   have c0:=hc k a0;rw[hx]at c0;have c1:w.cell? ⟨g,k,none⟩=some (.int .i64 x):=c0
   cases hgx:bp x
   .have P:=fun w=>Eq x hgx w
    have HN:Hid (false=okR zs):=(ao9 (List.mem_of_getElem? hx) hgx).symm;clear hc c0 hx hgx;go_wp2_with (go_at_call 223;refine (P _).mono ?_;rintro e w1 ⟨rfl,rfl⟩)
    go_ret;exact⟨jj HN.out,rfl⟩
   .have P:=fun w=>Ce x hgx w
    have a1:Hid (A5 zs (k+1)):=HG.out.succ hx hgx;clear hc c0 hx hgx;go_wp2_with (go_at_call 223;refine (P _).mono ?_;rintro e w1 ⟨rfl,rfl⟩)
    exact⟨⟨k+1,by omega,by go_num,a1⟩,by simp[intOf];omega⟩
  .have HA:=HG.out.all a0
   have HY:Hid (true=okR zs):=(decide_eq_true (⟨hz,HA⟩:zs.length≤200∧∀ x ∈ zs,bp x=true)).symm;clear hc HA;go_wp2;go_ret;exact⟨jj HY.out,rfl⟩
theorem K8 {w:World} {B:Nat} {v:Value} {zs:List Int}(hI:ab w B v zs) :
  Calls prog 210 #[v] w fun e w'=>e=.returned (.bool (okR zs))∧w'=w:=by
 rcases hI.form with ⟨rfl,rfl⟩|⟨g,cap,rfl,h1,h2⟩
 .have:okR []=true:=decide_eq_true ⟨by simp,by simp⟩
  rw[this];exact Hi w _ _
 .by_cases h:zs.length≤200
  .exact Ze w g cap zs h (fun j hj=>hI.cell j hj)
  .rw[ad4 (by omega)]
   exact V8 w _ _ _ (by omega)
def blk (l:List Int) (r:Int):Bool:=l.any fun b=>cls b == 0 || decide (cls r≤cls b)
def A4 (l:List Int) (r:Int) (k:Nat):Prop:=∀ j b,j<k→l[j]? = some b→¬ (cls b=0∨cls r≤cls b)
theorem Sg {l:List Int} {r b:Int} {k:Nat}(hb:l[k]? = some b) (h:cls b=0∨cls r≤cls b):blk l r=true :=
 List.any_eq_true.2 ⟨b,List.mem_of_getElem? hb,by simpa using h⟩
theorem a74 {l:List Int} {r:Int} {k:Nat}(h:A4 l r k) (hk:¬ k<l.length):blk l r=false:=by
 refine List.any_eq_false.2 fun b hb=>?_
 obtain⟨j,hj⟩:=List.mem_iff_getElem?.1 hb;have:=(List.getElem?_eq_some_iff.1 hj).1;simpa using h j b (by omega) hj
theorem A4.succ {l:List Int} {r b:Int} {k:Nat}(h:A4 l r k) (hb:l[k]? = some b) (hn:¬ (cls b=0∨cls r≤cls b)):A4 l r (k+1):=by
 intro j c hj hc;by_cases e:j=k
 .subst e;rw[hb]at hc;cases hc;exact hn
 .exact h j c (by omega) hc
def b20 (w:World) (l:List Int) (r:Int) (i:Value) (wr:World):Prop:=∃ k:Nat,k≤l.length∧i=.int .i64 k∧A4 l r k∧Below w.heap.size w wr
theorem Q7 (w:World) (g f c:Nat) (l:List Int) (r:Int) (hl:l.length≤1048576) (hg:g<w.heap.size) (hc:∀ j b,l[j]? = some b→w.cell? ⟨g,f+j,none⟩=some (.int .i64 b)) (hm:db w 7 ij) :
  Calls prog 214 #[.slice (some ⟨g,f,none⟩) l.length c,.int .i64 r] w fun e w'=>e=.returned (.bool (blk l r))∧Below w.heap.size w w':=by
 have C0:=nj r w hm;go_enter func214,ntmps214;go_wp2_with fail;refine C0.mono ?_;rintro e w1 ⟨rfl,a2⟩;clear C0;go_wp2_with fail;go_loopw [13] (fun i wr=>b20 w l r i wr) (fun i _=>l.length-(intOf i).toNat)
 case atStart=>exact⟨0,Nat.zero_le _,rfl,fun j b hj=>by omega,a2⟩
 case round =>
  clear a2;obtain⟨k,hk,rfl,a1,hb⟩:=hrel;have HB:Hid (A4 l r k):=a1;clear a1;by_cases a4:k<l.length
  .obtain⟨b,hx⟩:∃ b,l[k]? = some b:=⟨_,List.getElem?_eq_getElem a4⟩
   have c1:=hc k b hx;rw[<- hb.cell (p:=⟨g,f+k,none⟩) hg]at c1;have CC:=nj b wr (hm.below hb hm.lt);have a7:(k:Int)<(l.length:Int):=by omega
   have HX:Hid _:=hx;clear hx;go_wp2_with fail;refine CC.mono ?_;rintro e w2 ⟨rfl,a3⟩;have a0:=hb.trans (a3.mono hb.size);clear CC c1 a3 hb hc;by_cases e1:cls b=0
   .have HY:Hid (true=blk l r):=(Sg HX.out (.inl e1)).symm
    have a5:(cls b == 0)=true:=by simpa using e1
    clear HB HX e1;go_wp2;go_ret;exact⟨jj HY.out,a0⟩
   .have a5:(cls b == 0)=false:=by simpa using e1
    by_cases e2:cls r≤cls b
    .have HY:Hid (true=blk l r):=(Sg HX.out (.inr e2)).symm
     clear HB HX e1;go_wp2;go_ret;exact⟨jj HY.out,a0⟩
    .have HN:Hid (A4 l r (k+1)):=HB.out.succ HX.out (fun h=>h.elim e1 e2)
     have a6:decide (cls r≤cls b)=false:=by simpa using e2
     clear HB HX e1 e2;go_wp2;exact⟨⟨k+1,by omega,by go_num,HN.out,a0⟩,by simp[intOf];omega⟩
  .have HY:Hid (false=blk l r):=(a74 HB.out a4).symm
   clear HB hc;go_wp2;go_ret;exact⟨jj HY.out,hb⟩
end Go.Proofs.YtjbmgghehdemdaaGreatDoor
