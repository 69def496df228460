/- Sort2 -/
import Derived.Test.YtjbmgghehdemdaaGreatDoorMT2
import Derived.Deep.AppendLies
import Derived.Deep.RegionHeldLaw
namespace Go.Proofs.YtjbmgghehdemdaaGreatDoor
set_option maxRecDepth 100000
set_option maxHeartbeats 16000000
open _root_.Go.Proofs.Tryz
open Go.RowKit
def ar9 (w:World) (g cap:Nat) (zs:List Int) (i:Value) (wr:World):Prop :=
 ∃ k:Nat,k≤zs.length∧i=.int .i64 k∧wr.ownsRow w.heap.size 3 1 (.slice (some ⟨g,0,none⟩) zs.length cap) zs.length ((srt zs k).map (Value.int .i64))∧Below w.heap.size w wr
def ay2 (w:World) (g cap:Nat) (zs:List Int) (goal:List Int) (k:Value) (wr:World):Prop :=
 ∃ (j:Nat) (l:List Int),j<zs.length∧k=.int .i64 j∧l.length=zs.length∧wr.ownsRow w.heap.size 3 1 (.slice (some ⟨g,0,none⟩) zs.length cap) zs.length (l.map (Value.int .i64))∧Below w.heap.size w wr∧bub l j=goal
theorem ah4 (w:World) (g0 a5:Nat) (zs:List Int) (ag:0<zs.length) (hz:zs.length≤1048576) (ak:g0<w.heap.size)
  (hc:∀ j,j<zs.length→w.cell? ⟨g0,j,none⟩=some (.int .i64 (zs[j]?.getD 0))) :
  Calls prog 92 #[.slice (some ⟨g0,0,none⟩) zs.length a5] w fun e w'=>∃ v,e=.returned v∧ab w' w.heap.size v (mc zs)∧Below w.heap.size w w':=by
 obtain⟨i0,hi,aj,ah,ai⟩:=info_parts dv;have a3:=World.ownsRow_lit (base:=w.heap.size) (e:=3) (size:=1) w #[] 0 bR (by unfold maxLen;omega) rfl;go_enter func92,ntmps92;go_wp2_with (at_builtin;refine wpList_append_lies _ rfl _ _ 39 rfl w.heap.size 3 i0 (.int .i64 0) 1 8 underlying39 hi aj ah ai rfl (by decide) _ 0 [] rfl a3 ⟨g0,0,none⟩ zs.length a5 (zs.map (Value.int .i64)) rfl (by simp) ?hn (fun x hx=>by simp at hx;obtain⟨y,_,rfl⟩:=hx;rfl) ag (by unfold maxLen;omega) (by omega) (by simp) (w.heap.size+1) (by simp) ?_)
 case hn =>
  intro j a ha;have hj:=(List.getElem?_eq_some_iff.1 ha).1;rw[hc j hj,ha];rfl
 intro g cap w1 a0 a9 ac af;have a7:Below w.heap.size w w1:=Below.grown (bY _) a9 (by simp) (fun j hj=>by cases hj;exact bR);clear a9 ac hc a3;go_wp2_with fail;go_loopw [12] (fun i wr=>ar9 w g cap zs i wr) (fun i _=>zs.length-(intOf i).toNat)
 case atStart=>exact⟨0,Nat.zero_le _,rfl,a0,a7⟩
 case round =>
  clear a0 a7;obtain⟨i,hi1,rfl,a0,a1⟩:=hrel;by_cases ae:i<zs.length
  .go_wp2_with fail
   go_loopw [5] (fun k wr=>ay2 w g cap zs (srt zs (i+1)) k wr) (fun k _=>(intOf k).toNat)
   case atStart=>exact⟨i,srt zs i,ae,rfl,rt zs i,a0,a1,rfl⟩
   case round =>
    clear a0 a1;obtain⟨j,l,hj,rfl,hl,a0,a1,a2⟩:=hrel;have HG:Hid _:=a2;clear a2
    cases j with
    | zero =>
     go_wp2;go_quiet (fail)
     go_wp2;have he:l=srt zs (i+1):=HG.out;subst he;exact⟨⟨i+1,by omega,by go_num,a0,below_drewN a1 _⟩,by simp[intOf];omega⟩
    | succ m =>
     have cx:=a0.cellAt (m+1) (by omega);have cy:=a0.cellAt m (by omega);have ex:(l.map (Value.int .i64))[m+1]? = some (.int .i64 (at0 l (m+1))):=by simp[at0,hl,hj]
     have ey:(l.map (Value.int .i64))[m]? = some (.int .i64 (at0 l m)):=by
      have:m<l.length:=by omega
      simp[at0,this]
     rw[ex]at cx;rw[ey]at cy;have fx:=a0.frozenAt (m+1);have fy:=a0.frozenAt m;clear ex ey;have C:=fun r w=>Bt r w
     by_cases c:0<cls (at0 l (m+1))∧cls (at0 l (m+1))<cls (at0 l m)
     .have aa:Hid _:=(zo l m c).symm.trans HG.out
      have h1:=(a0.stored (m+1) (.int .i64 (at0 l m))).1;have h2:=(h1.stored m (.int .i64 (at0 l (m+1)))).1;have g1:=(a0.stored (m+1) (.int .i64 (at0 l m))).2;have g2:=(h1.stored m (.int .i64 (at0 l (m+1)))).2;have e3:((l.map (Value.int .i64)).set (m+1) (.int .i64 (at0 l m))).set m (.int .i64 (at0 l (m+1)))=((l.set (m+1) (at0 l m)).set m (at0 l (m+1))).map (Value.int .i64):=by simp[List.map_set]
      rw[e3]at h2;have a6:((l.set (m+1) (at0 l m)).set m (at0 l (m+1))).length=zs.length:=by simp[hl]
      have HW:Hid _:=And.intro h2 (And.intro g1 (And.intro g2 a6));obtain⟨c1,c2⟩:=c;have a8:=(a0.lt g rfl).1;clear h1 h2 g1 g2 e3 a6 HG a0;generalize at0 l (m+1)=x at *;generalize at0 l m=y at *;go_wp2;go_quiet ((go_at_call 127;exact Calls.quiet_of_same (C _ _)))
      go_wp2;have a4:=HW.out;exact⟨⟨m,_,by omega,by go_num,a4.2.2.2,a4.1,below_drewN (Below.grown (Below.grown a1 a4.2.1 (a1.size) (fun j hj=>by cases hj;exact a8)) a4.2.2.1 (Nat.le_trans a1.size a4.2.1.size) (fun j hj=>by cases hj;exact a8)) _,aa.out⟩,by simp[intOf]⟩
     .have he:l=srt zs (i+1):=(oe l m c).symm.trans HG.out
      clear HG;generalize at0 l (m+1)=x at *;generalize at0 l m=y at *;by_cases c1:0<cls x
      .have c2:¬ cls x<cls y:=fun h=>c ⟨c1,h⟩
       have d2:decide (cls x<cls y)=false:=by simpa using c2
       clear c;go_wp2;go_quiet ((go_at_call 127;exact Calls.quiet_of_same (C _ _)))
       go_wp2;subst he;exact⟨⟨i+1,by omega,by go_num,a0,below_drewN a1 _⟩,by simp[intOf];omega⟩
      .have d1:decide (0<cls x)=false:=by simpa using c1
       clear c c1;go_wp2;go_quiet ((go_at_call 127;exact Calls.quiet_of_same (C _ _)))
       go_wp2;subst he;exact⟨⟨i+1,by omega,by go_num,a0,below_drewN a1 _⟩,by simp[intOf];omega⟩
  .have ad:i=zs.length:=by omega
   subst ad;go_wp2;go_ret;refine⟨_,rfl,?_,a1⟩;unfold ab mc;rw[rt];exact a0
theorem ae1 {w:World} {B e n:Nat} {v:Value} {xs:List Value}(h:w.ownsRow B e 1 v n xs) (hn:v≠.slice none 0 0):∃ g cap,v=.slice (some ⟨g,0,none⟩) n cap:=by
 rcases h.2 with ⟨h,_⟩|⟨g,cap,_,h,_⟩
 .exact absurd h hn
 .exact⟨g,cap,h⟩
theorem Pd (w:World) :
  Calls prog 92 #[.slice none 0 0] w fun e w'=>∃ v,e=.returned v∧ab w' w.heap.size v []∧Below w.heap.size w w':=by
 have a0:=World.ownsRow_lit (base:=w.heap.size) (e:=3) (size:=1) w #[] 0 bR (by unfold maxLen;omega) rfl;go_enter func92,ntmps92;go_wp2;go_loopw [12] (fun i wr=>i=.int .i64 0∧wr=w.alloc (.cells #[] 3)) (fun _ _=>0)
 case atStart=>exact⟨rfl,rfl⟩
 case round =>
  obtain⟨rfl,rfl⟩:=hrel;go_wp2;go_ret;exact⟨_,rfl,a0,bY _⟩
theorem Xb (w:World) (ad:Addr) (c:Nat) :
  Calls prog 92 #[.slice (some ad) 0 c] w fun e w'=>∃ v,e=.returned v∧ab w' w.heap.size v []∧Below w.heap.size w w':=by
 obtain⟨i0,hi,a7,a5,a6⟩:=info_parts dv;have a0:=World.ownsRow_lit (base:=w.heap.size) (e:=3) (size:=1) w #[] 0 bR (by unfold maxLen;omega) rfl;go_enter func92,ntmps92;go_wp2_with (at_builtin;refine wpList_append_own _ rfl _ _ 39 rfl w.heap.size 3 i0 (.int .i64 0) 1 8 underlying39 hi a7 a5 a6 rfl (by decide) _ 0 [] rfl a0 ad 0 c [] rfl rfl (fun j u h=>by simp at h) (fun x hx=>by simp at hx) (by unfold maxLen;omega) (by omega) (by simp) ?_;intro v w1 a1 a2 a3;obtain⟨g,cap,rfl⟩:=ae1 a1 (fun h=>by have:=(a3.1 h).1;cases this);clear a3)
 have a4:Below w.heap.size w w1:=Below.grown (bY _) a2 (by simp) (fun j hj=>by cases hj;exact bR);have hI:ab w1 w.heap.size (.slice (some ⟨g,0,none⟩) 0 cap) []:=a1;clear a1 a2 a0;go_loopw [12] (fun i wr=>i=.int .i64 0∧wr=w1) (fun _ _=>0)
 case atStart=>exact⟨rfl,rfl⟩
 case round =>
  obtain⟨rfl,rfl⟩:=hrel;go_wp2;go_ret;exact⟨_,rfl,hI,a4⟩
theorem ah3 {w:World} {B:Nat} {v:Value} {zs:List Int}(hz:zs.length≤1048576) (hI:ab w B v zs) :
  Calls prog 92 #[v] w fun e w'=>∃ v',e=.returned v'∧ab w' w.heap.size v' (mc zs)∧Below w.heap.size w w':=by
 have hl:=World.ownsRow.lt hI;rcases hI.form with ⟨rfl,rfl⟩|⟨g,cap,rfl,h1,h2⟩
 .exact Pd w
 .by_cases h0:0<zs.length
  .exact ah4 w g cap zs h0 hz (hl g rfl).2 (fun j hj=>hI.cell j hj)
  .have e:zs=[]:=List.eq_nil_of_length_eq_zero (by omega)
   subst e;exact Xb w _ _
def Tab (w:World) (B:Nat) (v:Value) (ls:List (List Int)):Prop :=
 ∃ vs:List Value,w.ownsRow B 39 1 v ls.length vs∧∀ (k:Nat) (l:List Int),ls[k]? = some l→∃ x,vs[k]? = some x∧ab w B x l
theorem f3 {w:World} {B g:Nat} {cs:Array Value}(zs:List Int) (a0:cs=(zs.map (Value.int .i64)).toArray) (h:w.heap[g]? = some (.cells cs 3 (0,0))) (hB:B≤g) (hz:zs.length≤maxLen):ab w B (.slice (some ⟨g,0,none⟩) zs.length zs.length) zs:=by
 subst a0;refine⟨by simp,.inr ⟨g,zs.length,_,rfl,hB,h,bR,hz,by simp,List.take_of_length_le (by simp)⟩⟩
theorem sg {w:World} {B B' n:Nat} {x v:Value} {l:List Int} {vs:List Value}(h:ab w B x l) (ht:w.ownsRow B' 39 1 v n vs):x.ownBlock=none∨x.ownBlock≠v.ownBlock:=by
 rcases h.2 with ⟨rfl,_⟩|⟨g,cap,cur,rfl,_,hg,_⟩
 .exact .inl rfl
 .refine .inr fun e=>?_
  rcases ht.2 with ⟨rfl,_⟩|⟨g',a0,a1,rfl,_,a2,_⟩
  .cases e
  .have e2:g=g':=Option.some.inj e
   rw[e2,a2]at hg;have:=Option.some.inj hg;injection this with _ e3;exact absurd e3 (by decide)
theorem Tab.kept {w w':World} {B:Nat} {v:Value} {ls:List (List Int)}(h:Tab w B v ls){row:Option Nat}(hg:w.grownBy w' row) (h1:v.ownBlock=none∨v.ownBlock≠row) (h2:∀ x l,ab w B x l→x.ownBlock=none∨x.ownBlock≠row):Tab w' B v ls:=by
 obtain⟨vs,a,b⟩:=h;refine⟨vs,a.kept hg h1,fun k l hl=>?_⟩;obtain⟨x,hx,hi⟩:=b k l hl;exact⟨x,hx,World.ownsRow.kept hi hg (h2 x l hi)⟩
theorem Zk:(prog.info? 39).map (fun i=>(i.zero,i.size,i.bytes))=some (some (.slice none 0 0),1,24):=by kernel_rfl
theorem au8:∀ k,k<9→(ni++(jv.take k).flatMap gu).length≤60:=by decide
theorem At {w:World} {B g c:Nat} {cs:Array Value}(zs:List Int) (n:Nat) (hn:zs.length=n) (a0:cs.toList.take n=zs.map (Value.int .i64)) (hc:cs.size=c) (h:w.heap[g]? = some (.cells cs 3 (0,0))) (hB:B≤g) (hz:n≤c) (hm:c≤maxLen):ab w B (.slice (some ⟨g,0,none⟩) n c) zs:=by
 subst hn;exact⟨by simp,.inr ⟨g,c,cs,rfl,hB,h,hz,hm,by omega,by simpa using a0⟩⟩
theorem Mm (w:World):6≤(Question.appendCap 6 2 3).cut (w.tape w.drawn (Question.appendCap 6 2 3))∧(Question.appendCap 6 2 3).cut (w.tape w.drawn (Question.appendCap 6 2 3))≤maxLen :=
 ⟨grownCap_ge w 6 2 3,grownCap_le_maxLen w 6 2 3 (by unfold maxLen;omega)⟩
def Il (w:World) (out i:Value) (wr:World):Prop :=
 ∃ k:Nat,k≤8∧i=.int .i64 k∧Tab wr w.heap.size out (ni++(jv.take k).flatMap gu)∧Tab wr w.heap.size (.slice (some ⟨w.heap.size+1+1+1+1+1+1+1+1+1+1+1+1+1+1+1+1+1+1,0,none⟩) 8 8) jv∧out.ownBlock≠some (w.heap.size+1+1+1+1+1+1+1+1+1+1+1+1+1+1+1+1+1+1)∧Below w.heap.size w wr
def ar6 (w:World) (h cap:Nat) (r0 r1:Int) (ms:List Int) (L:List (List Int)) (out i:Value) (wr:World):Prop :=
 ∃ j:Nat,j≤ms.length∧i=.int .i64 j∧Tab wr w.heap.size out (L++(gu (r0::r1::ms)).take (2*j))∧Tab wr w.heap.size (.slice (some ⟨w.heap.size+1+1+1+1+1+1+1+1+1+1+1+1+1+1+1+1+1+1,0,none⟩) 8 8) jv∧ab wr w.heap.size (.slice (some ⟨h,0,none⟩) (ms.length+1+1) cap) (r0::r1::ms)∧out.ownBlock≠some (w.heap.size+1+1+1+1+1+1+1+1+1+1+1+1+1+1+1+1+1+1)∧Below w.heap.size w wr
theorem Is (w:World) (o1 o2 o3:Obj) (h i:Nat){v:Value}(a0:h<w.heap.size) (hc:w.cell? ⟨h,i,none⟩=some v):(((w.alloc o1).alloc o2).alloc o3).cell? ⟨h,i,none⟩=some v:=by
 rw[World.cell?_alloc_past _ _ _ (by simp;omega),World.cell?_alloc_past _ _ _ (by simp;omega),World.cell?_alloc_past _ _ _ a0];exact hc
theorem ak0 (w:World) (o1 o2:Obj) (a b:Value) (t:TypeId):∀ j u,[a,b][j]? = some u→(((w.alloc o1).alloc o2).alloc (.cells #[a,b] t)).cell? ((⟨w.heap.size+1+1,0,none⟩:Addr).add j)=some u:=by
 have h:=cell_two_new ((w.alloc o1).alloc o2) a b t;have e:((w.alloc o1).alloc o2).heap.size=w.heap.size+1+1:=by simp
 rw[e]at h;exact h
theorem Ql (r0 r1:Int) (ms:List Int) (j:Nat) (m:Int) (h:ms[j]? = some m) :
  (gu (r0::r1::ms)).take (2*(j+1))=(gu (r0::r1::ms)).take (2*j)++[[r0+(j:Int),r1,m],[r0+(j:Int)+32,r1+32,m]]:=by
 have key:∀ (ms:List Int) (s j:Nat),ms[j]? = some m→(((ms.zipIdx s).flatMap fun p=>[[r0+(p.2:Int),r1,p.1],[r0+(p.2:Int)+32,r1+32,p.1]]).take (2*(j+1)))=(((ms.zipIdx s).flatMap fun p=>[[r0+(p.2:Int),r1,p.1],[r0+(p.2:Int)+32,r1+32,p.1]]).take (2*j))++[[r0+((s+j:Nat):Int),r1,m],[r0+((s+j:Nat):Int)+32,r1+32,m]]:=by
  intro ms;induction ms with
  | nil=>intro s j h;simp at h
  | cons a ms ih =>
   intro s j h
   cases j with
   | zero =>
    simp at h;subst h;simp[List.zipIdx_cons]
   | succ j =>
    have h':ms[j]? = some m:=by simpa using h
    have:=ih (s+1) j h';rw[show 2*(j+1+1)=2*(j+1)+1+1 by omega,show 2*(j+1)=2*j+1+1 by omega];simp only[List.zipIdx_cons,List.flatMap_cons,List.cons_append,List.nil_append,List.take_succ_cons];rw[show 2*j+1+1=2*(j+1) by omega,this,show s+1+j=s+(j+1) by omega]
 have:=key ms 0 j h;simpa [gu] using this
theorem ai3 {wr X w':World} {B:Nat} {u v':Value} {ls:List (List Int)} {vs:List Value}(a1:wr.ownsRow B 39 1 u ls.length vs) (a5:∀ (k:Nat) (l:List Int),ls[k]? = some l→∃ x,vs[k]? = some x∧ab wr B x l)
  (hX:wr.grownBy X none) (a b:List Int) (sa sb:Value) (ia:ab X B sa a) (ib:ab X B sb b) (a3:X.grownBy w' u.ownBlock) {n:Nat} (hn:n=ls.length+2) (a2:w'.ownsRow B 39 1 v' n (vs++[sa,sb])):Tab w' B v' (ls++[a,b]):=by
 have a0:X.ownsRow B 39 1 u ls.length vs:=a1.kept hX (by cases u.ownBlock <;> simp);have hl:vs.length=ls.length:=by simpa using a1.1
 refine⟨vs++[sa,sb],by simpa [hn] using a2,fun k l h=>?_⟩;by_cases hk:k<ls.length
 .rw[List.getElem?_append_left hk]at h
  obtain⟨x,hx,hi⟩:=a5 k l h;have a4:ab X B x l:=World.ownsRow.kept hi hX (by cases x.ownBlock <;> simp);exact⟨x,by rw[List.getElem?_append_left (by omega)];exact hx,World.ownsRow.kept a4 a3 (sg a4 a0)⟩
 .rw[List.getElem?_append_right (by omega)]at h
  rw[List.getElem?_append_right (by omega)];match hd:k-ls.length,h with
  | 0,h =>
   simp at h;subst h;exact⟨sa,by rw[show k-vs.length=0 by omega];rfl,World.ownsRow.kept ia a3 (sg ia a0)⟩
  | 1,h =>
   simp at h;subst h;exact⟨sb,by rw[show k-vs.length=1 by omega];rfl,World.ownsRow.kept ib a3 (sg ib a0)⟩
  | d+2,h=>simp at h
theorem Lq (w:World) (o1 o2 o3:Obj):(((w.alloc o1).alloc o2).alloc o3).heap[w.heap.size]? = some o1∧(((w.alloc o1).alloc o2).alloc o3).heap[w.heap.size+1]? = some o2:=by
 have e1:(w.alloc o1).heap.size=w.heap.size+1:=by simp
 refine⟨?_,?_⟩
 .rw[Below.heap_alloc _ _ _ (by simp;omega),Below.heap_alloc _ _ _ (by simp)]
  exact heap_alloc_new w o1
 .rw[Below.heap_alloc _ _ _ (by simp),<- e1]
  exact heap_alloc_new _ o2
theorem at9 (w:World) (o1 o2 o3:Obj):w.grownBy (((w.alloc o1).alloc o2).alloc o3) none :=
 ((World.grownBy_alloc w o1 none).trans (World.grownBy_alloc _ o2 none)).trans (World.grownBy_alloc _ o3 none)
theorem Kd {w wr w':World} {h cap j:Nat} {r0 r1 m:Int} {ms:List Int} {L:List (List Int)} {u:Value} {vs:List Value} {n:Nat}(hn:n=(L++(gu (r0::r1::ms)).take (2*j)).length) (o1 o2 o3:Obj)
  (hj:j<ms.length) (hm:ms[j]? = some m)
  (a1:wr.ownsRow w.heap.size 39 1 u n vs)
  (aa:∀ (k:Nat) (l:List Int),(L++(gu (r0::r1::ms)).take (2*j))[k]? = some l→∃ x,vs[k]? = some x∧ab wr w.heap.size x l)
  (hR:Tab wr w.heap.size (.slice (some ⟨w.heap.size+1+1+1+1+1+1+1+1+1+1+1+1+1+1+1+1+1+1,0,none⟩) 8 8) jv) (hI:ab wr w.heap.size (.slice (some ⟨h,0,none⟩) (ms.length+1+1) cap) (r0::r1::ms)) (a7:u.ownBlock≠some (w.heap.size+1+1+1+1+1+1+1+1+1+1+1+1+1+1+1+1+1+1)) (a3:Below w.heap.size w wr)
  (sa sb:Value) (ia:ab (((wr.alloc o1).alloc o2).alloc o3) w.heap.size sa [r0+(j:Int),r1,m]) (ib:ab (((wr.alloc o1).alloc o2).alloc o3) w.heap.size sb [r0+(j:Int)+32,r1+32,m])
  {g' a2:Nat} (a4:w'.ownsRow w.heap.size 39 1 (.slice (some ⟨g',0,none⟩) (n+2) a2) (n+2) (vs++[sa,sb]))
  (a5:(((wr.alloc o1).alloc o2).alloc o3).grownBy w' u.ownBlock) (a9:u.ownBlock=some g'∨g'=wr.heap.size+1+1+1) :
  ar6 w h cap r0 r1 ms L (.slice (some ⟨g',0,none⟩) (n+2) a2) (.int .i64 ((j:Int)+1)) w':=by
 subst hn;have hX:=at9 wr o1 o2 o3;have a0:=a1.kept hX (by cases u.ownBlock <;> simp);have a8:=hR.kept hX (.inr (by simp[Value.ownBlock])) (fun x l _=>by cases x.ownBlock <;> simp);have a6:ab _ _ _ _:=World.ownsRow.kept hI hX (.inr (by simp[Value.ownBlock]));have ad:w.heap.size+1+1+1+1+1+1+1+1+1+1+1+1+1+1+1+1+1+1<wr.heap.size:=by
  obtain⟨vr,ac,_⟩:=hR;exact (ac.lt _ rfl).2
 have hT:=ai3 a1 aa hX _ _ sa sb ia ib a5 rfl a4;rw[List.append_assoc,<- Ql r0 r1 ms j m hm]at hT;refine⟨j+1,by omega,by simp,hT,a8.kept a5 (.inr (fun e=>a7 e.symm)) (fun x l hx=>sg hx a0),World.ownsRow.kept a6 a5 (sg a6 a0),?_,?_⟩
 .intro e
  have e1:g'=w.heap.size+1+1+1+1+1+1+1+1+1+1+1+1+1+1+1+1+1+1:=Option.some.inj e;rcases a9 with h1|h1
  .exact a7 (by rw[h1,e1])
  .omega
 .refine Below.grown (((a3.alloc a3.size _).alloc (by simp;have:=a3.size;omega) _).alloc (by simp;have:=a3.size;omega) _) a5 (by simp;have:=a3.size;omega) (fun k hk=>(a1.lt k hk).1)
theorem A6:∀ (os:List Obj) (w:World) (k:Nat),k<w.heap.size→(os.foldl World.alloc w).heap[k]? = w.heap[k]?
 | [],_,_,_=>rfl
 | o::os,w,k,h=>(A6 os (w.alloc o) k (by simp;omega)).trans (Below.heap_alloc w o k h)
theorem E8:∀ (os:List Obj) (w:World),(os.foldl World.alloc w).heap.size=w.heap.size+os.length
 | [],_=>rfl
 | o::os,w=>by
  show (os.foldl World.alloc (w.alloc o)).heap.size=_
  rw[E8 os (w.alloc o)];simp;omega
theorem E7:∀ (os:List Obj) (w:World) (k:Nat) (o:Obj),os[k]? = some o→(os.foldl World.alloc w).heap[w.heap.size+k]? = some o
 | [],_,_,_,h=>by simp at h
 | a::os,w,0,o,h=>by
  have e:a=o:=by simpa using h
  subst e;show (os.foldl World.alloc (w.alloc a)).heap[w.heap.size]? = some a
  rw[A6 os (w.alloc a) w.heap.size (by simp)];exact heap_alloc_new w a
 | a::os,w,k+1,o,h=>by
  have e:os[k]? = some o:=by simpa using h
  have:=E7 os (w.alloc a) k o e;rw[show (w.alloc a).heap.size=w.heap.size+1 by simp,show w.heap.size+1+k=w.heap.size+(k+1) by omega]at this;exact this
theorem Lz (os:List Obj) (w:World):Below w.heap.size w (os.foldl World.alloc w):=by
 refine⟨?_,?_,?_,by rw[E8];omega,fun k hk=>A6 os w k hk⟩;all_goals
  induction os generalizing w with
  | nil=>rfl
  | cons o os ih=>exact ih (w.alloc o)
def Ob (w:World) (c1 c2 c3:Nat):List Obj:=[
 .cells #[.int .i64 255,.int .i64 121,.int .i64 776] 3,
 .cells #[.int .i64 7844,.int .i64 194,.int .i64 769] 3,
 .cells #[.int .i64 7845,.int .i64 226,.int .i64 769] 3,
 .cells #[.int .i64 7779,.int .i64 115,.int .i64 803] 3,
 .cells #[.int .i64 7785,.int .i64 7779,.int .i64 775] 3,
 .cells #[.slice (some ⟨w.heap.size,0,none⟩) 3 3,.slice (some ⟨w.heap.size+1,0,none⟩) 3 3,.slice (some ⟨w.heap.size+1+1,0,none⟩) 3 3,.slice (some ⟨w.heap.size+1+1+1,0,none⟩) 3 3,.slice (some ⟨w.heap.size+1+1+1+1,0,none⟩) 3 3] 39,
 .cells #[.int .i64 768,.int .i64 769,.int .i64 770,.int .i64 776] 3,
 .cells #[.int .i64 192,.int .i64 65,.int .i64 768,.int .i64 769,.int .i64 770,.int .i64 771,.int .i64 776,.int .i64 778] 3,
 .cells #[.int .i64 199,.int .i64 67,.int .i64 807] 3,
 .cells #[.int .i64 200,.int .i64 69] 3,
 .cells (#[.int .i64 200,.int .i64 69]++(#[.int .i64 768,.int .i64 769,.int .i64 770,.int .i64 776]++Builtin.zeroCells #[.int .i64 0] (c1-6))) 3,
 .cells #[.int .i64 204,.int .i64 73] 3,
 .cells (#[.int .i64 204,.int .i64 73]++(#[.int .i64 768,.int .i64 769,.int .i64 770,.int .i64 776]++Builtin.zeroCells #[.int .i64 0] (c2-6))) 3,
 .cells #[.int .i64 209,.int .i64 78,.int .i64 771] 3,
 .cells #[.int .i64 210,.int .i64 79,.int .i64 768,.int .i64 769,.int .i64 770,.int .i64 771,.int .i64 776] 3,
 .cells #[.int .i64 217,.int .i64 85] 3,
 .cells (#[.int .i64 217,.int .i64 85]++(#[.int .i64 768,.int .i64 769,.int .i64 770,.int .i64 776]++Builtin.zeroCells #[.int .i64 0] (c3-6))) 3,
 .cells #[.int .i64 221,.int .i64 89,.int .i64 769] 3,
 .cells #[.slice (some ⟨w.heap.size+1+1+1+1+1+1+1,0,none⟩) 8 8,.slice (some ⟨w.heap.size+1+1+1+1+1+1+1+1,0,none⟩) 3 3,.slice (some ⟨w.heap.size+1+1+1+1+1+1+1+1+1+1,0,none⟩) 6 c1,.slice (some ⟨w.heap.size+1+1+1+1+1+1+1+1+1+1+1+1,0,none⟩) 6 c2,.slice (some ⟨w.heap.size+1+1+1+1+1+1+1+1+1+1+1+1+1,0,none⟩) 3 3,.slice (some ⟨w.heap.size+1+1+1+1+1+1+1+1+1+1+1+1+1+1,0,none⟩) 7 7,.slice (some ⟨w.heap.size+1+1+1+1+1+1+1+1+1+1+1+1+1+1+1+1,0,none⟩) 6 c3,.slice (some ⟨w.heap.size+1+1+1+1+1+1+1+1+1+1+1+1+1+1+1+1+1,0,none⟩) 3 3] 39]
theorem aw3 {W:World}(w:World) (c1 c2 c3:Nat) (hp:∀ (k:Nat) (o:Obj),(Ob w c1 c2 c3)[k]? = some o→W.heap[w.heap.size+k]? = some o):Tab W w.heap.size (.slice (some ⟨w.heap.size+1+1+1+1+1,0,none⟩) 5 5) ni:=by
 have i0:ab W w.heap.size (.slice (some ⟨w.heap.size,0,none⟩) 3 3) [255,121,776]:=f3 _ rfl (hp 0 _ rfl) (by omega) (by unfold maxLen;simp);have i1:ab W w.heap.size (.slice (some ⟨w.heap.size+1,0,none⟩) 3 3) [7844,194,769]:=f3 _ rfl (hp 1 _ rfl) (by omega) (by unfold maxLen;simp);have i2:ab W w.heap.size (.slice (some ⟨w.heap.size+1+1,0,none⟩) 3 3) [7845,226,769]:=f3 _ rfl (hp 2 _ rfl) (by omega) (by unfold maxLen;simp);have i3:ab W w.heap.size (.slice (some ⟨w.heap.size+1+1+1,0,none⟩) 3 3) [7779,115,803]:=f3 _ rfl (hp 3 _ rfl) (by omega) (by unfold maxLen;simp);have i4:ab W w.heap.size (.slice (some ⟨w.heap.size+1+1+1+1,0,none⟩) 3 3) [7785,7779,775]:=f3 _ rfl (hp 4 _ rfl) (by omega) (by unfold maxLen;simp)
 refine⟨[.slice (some ⟨w.heap.size,0,none⟩) 3 3,.slice (some ⟨w.heap.size+1,0,none⟩) 3 3,.slice (some ⟨w.heap.size+1+1,0,none⟩) 3 3,.slice (some ⟨w.heap.size+1+1+1,0,none⟩) 3 3,.slice (some ⟨w.heap.size+1+1+1+1,0,none⟩) 3 3],⟨rfl,.inr ⟨_,5,_,rfl,by omega,hp 5 _ rfl,by simp[ni],by unfold maxLen;omega,rfl,rfl⟩⟩,?_⟩;intro k l hk;match k,hk with
 | 0,hk=>cases hk;exact⟨_,rfl,i0⟩
 | 1,hk=>cases hk;exact⟨_,rfl,i1⟩
 | 2,hk=>cases hk;exact⟨_,rfl,i2⟩
 | 3,hk=>cases hk;exact⟨_,rfl,i3⟩
 | 4,hk=>cases hk;exact⟨_,rfl,i4⟩
 | k+5,hk=>simp[ni]at hk
theorem aw4 {W:World}(w:World) (c1 c2 c3:Nat) (hp:∀ (k:Nat) (o:Obj),(Ob w c1 c2 c3)[k]? = some o→W.heap[w.heap.size+k]? = some o) (h1:6≤c1∧c1≤maxLen) (h2:6≤c2∧c2≤maxLen) (h3:6≤c3∧c3≤maxLen):Tab W w.heap.size (.slice (some ⟨w.heap.size+1+1+1+1+1+1+1+1+1+1+1+1+1+1+1+1+1+1,0,none⟩) 8 8) jv:=by
 have r0:ab W w.heap.size (.slice (some ⟨w.heap.size+1+1+1+1+1+1+1,0,none⟩) 8 8) [192,65,768,769,770,771,776,778]:=f3 _ rfl (hp 7 _ rfl) (by omega) (by unfold maxLen;simp);have r1:ab W w.heap.size (.slice (some ⟨w.heap.size+1+1+1+1+1+1+1+1,0,none⟩) 3 3) [199,67,807]:=f3 _ rfl (hp 8 _ rfl) (by omega) (by unfold maxLen;simp);have r2:ab W w.heap.size (.slice (some ⟨w.heap.size+1+1+1+1+1+1+1+1+1+1,0,none⟩) 6 c1) [200,69,768,769,770,776]:=At _ 6 rfl (by simp) (by simp[size_zeroCells];omega) (hp 10 _ rfl) (by omega) (by omega) (by omega);have r3:ab W w.heap.size (.slice (some ⟨w.heap.size+1+1+1+1+1+1+1+1+1+1+1+1,0,none⟩) 6 c2) [204,73,768,769,770,776]:=At _ 6 rfl (by simp) (by simp[size_zeroCells];omega) (hp 12 _ rfl) (by omega) (by omega) (by omega)
 have r4:ab W w.heap.size (.slice (some ⟨w.heap.size+1+1+1+1+1+1+1+1+1+1+1+1+1,0,none⟩) 3 3) [209,78,771]:=f3 _ rfl (hp 13 _ rfl) (by omega) (by unfold maxLen;simp);have r5:ab W w.heap.size (.slice (some ⟨w.heap.size+1+1+1+1+1+1+1+1+1+1+1+1+1+1,0,none⟩) 7 7) [210,79,768,769,770,771,776]:=f3 _ rfl (hp 14 _ rfl) (by omega) (by unfold maxLen;simp);have r6:ab W w.heap.size (.slice (some ⟨w.heap.size+1+1+1+1+1+1+1+1+1+1+1+1+1+1+1+1,0,none⟩) 6 c3) [217,85,768,769,770,776]:=At _ 6 rfl (by simp) (by simp[size_zeroCells];omega) (hp 16 _ rfl) (by omega) (by omega) (by omega);have r7:ab W w.heap.size (.slice (some ⟨w.heap.size+1+1+1+1+1+1+1+1+1+1+1+1+1+1+1+1+1,0,none⟩) 3 3) [221,89,769]:=f3 _ rfl (hp 17 _ rfl) (by omega) (by unfold maxLen;simp)
 refine⟨[.slice (some ⟨w.heap.size+1+1+1+1+1+1+1,0,none⟩) 8 8,.slice (some ⟨w.heap.size+1+1+1+1+1+1+1+1,0,none⟩) 3 3,.slice (some ⟨w.heap.size+1+1+1+1+1+1+1+1+1+1,0,none⟩) 6 c1,.slice (some ⟨w.heap.size+1+1+1+1+1+1+1+1+1+1+1+1,0,none⟩) 6 c2,.slice (some ⟨w.heap.size+1+1+1+1+1+1+1+1+1+1+1+1+1,0,none⟩) 3 3,.slice (some ⟨w.heap.size+1+1+1+1+1+1+1+1+1+1+1+1+1+1,0,none⟩) 7 7,.slice (some ⟨w.heap.size+1+1+1+1+1+1+1+1+1+1+1+1+1+1+1+1,0,none⟩) 6 c3,.slice (some ⟨w.heap.size+1+1+1+1+1+1+1+1+1+1+1+1+1+1+1+1+1,0,none⟩) 3 3],⟨rfl,.inr ⟨_,8,_,rfl,by omega,hp 18 _ rfl,by simp[jv],by unfold maxLen;omega,rfl,rfl⟩⟩,?_⟩;intro k l hk;match k,hk with
 | 0,hk=>cases hk;exact⟨_,rfl,r0⟩
 | 1,hk=>cases hk;exact⟨_,rfl,r1⟩
 | 2,hk=>cases hk;exact⟨_,rfl,r2⟩
 | 3,hk=>cases hk;exact⟨_,rfl,r3⟩
 | 4,hk=>cases hk;exact⟨_,rfl,r4⟩
 | 5,hk=>cases hk;exact⟨_,rfl,r5⟩
 | 6,hk=>cases hk;exact⟨_,rfl,r6⟩
 | 7,hk=>cases hk;exact⟨_,rfl,r7⟩
 | k+8,hk=>simp[jv]at hk
theorem Ry (w:World) (c1 c2 c3:Nat) (h1:6≤c1∧c1≤maxLen) (h2:6≤c2∧c2≤maxLen) (h3:6≤c3∧c3≤maxLen) :
  Il w (.slice (some ⟨w.heap.size+1+1+1+1+1,0,none⟩) 5 5) (.int .i64 0) ((Ob w c1 c2 c3).foldl World.alloc w):=by
 have hp:=E7 (Ob w c1 c2 c3) w;refine⟨0,by omega,rfl,by simpa using aw3 w c1 c2 c3 hp,aw4 w c1 c2 c3 hp h1 h2 h3,by simp[Value.ownBlock],Lz _ w⟩
theorem Il.drew {w W:World} {a b:Value}(h:Il w a b W):Il w a b W.drew:=by
 obtain⟨k,h1,h2,⟨vs,t1,t2⟩,⟨vr,u1,u2⟩,h5,h6⟩:=h;exact⟨k,h1,h2,⟨vs,t1,t2⟩,⟨vr,u1,u2⟩,h5,h6.drew⟩
theorem av3 (w:World) (c1 c2 c3:Nat):(Ob w c1 c2 c3).foldl World.alloc w=(((((((((((((((((((w.alloc (.cells #[.int .i64 255,.int .i64 121,.int .i64 776] 3)).alloc (.cells #[.int .i64 7844,.int .i64 194,.int .i64 769] 3)).alloc (.cells #[.int .i64 7845,.int .i64 226,.int .i64 769] 3)).alloc (.cells #[.int .i64 7779,.int .i64 115,.int .i64 803] 3)).alloc (.cells #[.int .i64 7785,.int .i64 7779,.int .i64 775] 3)).alloc (.cells #[.slice (some ⟨w.heap.size,0,none⟩) 3 3,.slice (some ⟨w.heap.size+1,0,none⟩) 3 3,.slice (some ⟨w.heap.size+1+1,0,none⟩) 3 3,.slice (some ⟨w.heap.size+1+1+1,0,none⟩) 3 3,.slice (some ⟨w.heap.size+1+1+1+1,0,none⟩) 3 3] 39)).alloc (.cells #[.int .i64 768,.int .i64 769,.int .i64 770,.int .i64 776] 3)).alloc (.cells #[.int .i64 192,.int .i64 65,.int .i64 768,.int .i64 769,.int .i64 770,.int .i64 771,.int .i64 776,.int .i64 778] 3)).alloc (.cells #[.int .i64 199,.int .i64 67,.int .i64 807] 3)).alloc (.cells #[.int .i64 200,.int .i64 69] 3)).alloc (.cells (#[.int .i64 200,.int .i64 69]++(#[.int .i64 768,.int .i64 769,.int .i64 770,.int .i64 776]++Builtin.zeroCells #[.int .i64 0] (c1-6))) 3)).alloc (.cells #[.int .i64 204,.int .i64 73] 3)).alloc (.cells (#[.int .i64 204,.int .i64 73]++(#[.int .i64 768,.int .i64 769,.int .i64 770,.int .i64 776]++Builtin.zeroCells #[.int .i64 0] (c2-6))) 3)).alloc (.cells #[.int .i64 209,.int .i64 78,.int .i64 771] 3)).alloc (.cells #[.int .i64 210,.int .i64 79,.int .i64 768,.int .i64 769,.int .i64 770,.int .i64 771,.int .i64 776] 3)).alloc (.cells #[.int .i64 217,.int .i64 85] 3)).alloc (.cells (#[.int .i64 217,.int .i64 85]++(#[.int .i64 768,.int .i64 769,.int .i64 770,.int .i64 776]++Builtin.zeroCells #[.int .i64 0] (c3-6))) 3)).alloc (.cells #[.int .i64 221,.int .i64 89,.int .i64 769] 3)).alloc (.cells #[.slice (some ⟨w.heap.size+1+1+1+1+1+1+1,0,none⟩) 8 8,.slice (some ⟨w.heap.size+1+1+1+1+1+1+1+1,0,none⟩) 3 3,.slice (some ⟨w.heap.size+1+1+1+1+1+1+1+1+1+1,0,none⟩) 6 c1,.slice (some ⟨w.heap.size+1+1+1+1+1+1+1+1+1+1+1+1,0,none⟩) 6 c2,.slice (some ⟨w.heap.size+1+1+1+1+1+1+1+1+1+1+1+1+1,0,none⟩) 3 3,.slice (some ⟨w.heap.size+1+1+1+1+1+1+1+1+1+1+1+1+1+1,0,none⟩) 7 7,.slice (some ⟨w.heap.size+1+1+1+1+1+1+1+1+1+1+1+1+1+1+1+1,0,none⟩) 6 c3,.slice (some ⟨w.heap.size+1+1+1+1+1+1+1+1+1+1+1+1+1+1+1+1+1,0,none⟩) 3 3] 39)):=rfl
theorem Rx (w:World) (c1 c2 c3:Nat) (h1:6≤c1∧c1≤maxLen) (h2:6≤c2∧c2≤maxLen) (h3:6≤c3∧c3≤maxLen) :
  Il w (.slice (some ⟨w.heap.size+1+1+1+1+1,0,none⟩) 5 5) (.int .i64 0) ((((((((((((((((((((w.alloc (.cells #[.int .i64 255,.int .i64 121,.int .i64 776] 3)).alloc (.cells #[.int .i64 7844,.int .i64 194,.int .i64 769] 3)).alloc (.cells #[.int .i64 7845,.int .i64 226,.int .i64 769] 3)).alloc (.cells #[.int .i64 7779,.int .i64 115,.int .i64 803] 3)).alloc (.cells #[.int .i64 7785,.int .i64 7779,.int .i64 775] 3)).alloc (.cells #[.slice (some ⟨w.heap.size,0,none⟩) 3 3,.slice (some ⟨w.heap.size+1,0,none⟩) 3 3,.slice (some ⟨w.heap.size+1+1,0,none⟩) 3 3,.slice (some ⟨w.heap.size+1+1+1,0,none⟩) 3 3,.slice (some ⟨w.heap.size+1+1+1+1,0,none⟩) 3 3] 39)).alloc (.cells #[.int .i64 768,.int .i64 769,.int .i64 770,.int .i64 776] 3)).alloc (.cells #[.int .i64 192,.int .i64 65,.int .i64 768,.int .i64 769,.int .i64 770,.int .i64 771,.int .i64 776,.int .i64 778] 3)).alloc (.cells #[.int .i64 199,.int .i64 67,.int .i64 807] 3)).alloc (.cells #[.int .i64 200,.int .i64 69] 3)).alloc (.cells (#[.int .i64 200,.int .i64 69]++(#[.int .i64 768,.int .i64 769,.int .i64 770,.int .i64 776]++Builtin.zeroCells #[.int .i64 0] (c1-6))) 3)).alloc (.cells #[.int .i64 204,.int .i64 73] 3)).alloc (.cells (#[.int .i64 204,.int .i64 73]++(#[.int .i64 768,.int .i64 769,.int .i64 770,.int .i64 776]++Builtin.zeroCells #[.int .i64 0] (c2-6))) 3)).alloc (.cells #[.int .i64 209,.int .i64 78,.int .i64 771] 3)).alloc (.cells #[.int .i64 210,.int .i64 79,.int .i64 768,.int .i64 769,.int .i64 770,.int .i64 771,.int .i64 776] 3)).alloc (.cells #[.int .i64 217,.int .i64 85] 3)).alloc (.cells (#[.int .i64 217,.int .i64 85]++(#[.int .i64 768,.int .i64 769,.int .i64 770,.int .i64 776]++Builtin.zeroCells #[.int .i64 0] (c3-6))) 3)).alloc (.cells #[.int .i64 221,.int .i64 89,.int .i64 769] 3)).alloc (.cells #[.slice (some ⟨w.heap.size+1+1+1+1+1+1+1,0,none⟩) 8 8,.slice (some ⟨w.heap.size+1+1+1+1+1+1+1+1,0,none⟩) 3 3,.slice (some ⟨w.heap.size+1+1+1+1+1+1+1+1+1+1,0,none⟩) 6 c1,.slice (some ⟨w.heap.size+1+1+1+1+1+1+1+1+1+1+1+1,0,none⟩) 6 c2,.slice (some ⟨w.heap.size+1+1+1+1+1+1+1+1+1+1+1+1+1,0,none⟩) 3 3,.slice (some ⟨w.heap.size+1+1+1+1+1+1+1+1+1+1+1+1+1+1,0,none⟩) 7 7,.slice (some ⟨w.heap.size+1+1+1+1+1+1+1+1+1+1+1+1+1+1+1+1,0,none⟩) 6 c3,.slice (some ⟨w.heap.size+1+1+1+1+1+1+1+1+1+1+1+1+1+1+1+1+1,0,none⟩) 3 3] 39)).drew.drew.drew):=by
 have h:=Ry w c1 c2 c3 h1 h2 h3;rw[av3]at h;exact h.drew.drew.drew
theorem rh {X w':World} {row:Option Nat}(h:X.drew.grownBy w' row):X.grownBy w' row:=⟨h.os,h.tape,h.output,h.size,h.block⟩
theorem a58 {k:Nat} {row:List Int}(h:jv[k]? = some row):ni++(jv.take (k+1)).flatMap gu=ni++(jv.take k).flatMap gu++gu row:=by
 have hk:k<jv.length:=(List.getElem?_eq_some_iff.1 h).1;have e:jv[k]=row:=by
  have:=List.getElem?_eq_getElem hk;rw[h]at this;exact (Option.some.inj this).symm
 rw[List.take_succ_eq_append_getElem hk,e];simp
theorem Uh (r0 r1:Int) (ms:List Int) (j:Nat) (hj:¬ j<ms.length):(gu (r0::r1::ms)).take (2*j)=gu (r0::r1::ms):=by
 apply List.take_of_length_le
 have:∀ (ms:List Int) (s:Nat),((ms.zipIdx s).flatMap fun p=>[[r0+(p.2:Int),r1,p.1],[r0+(p.2:Int)+32,r1+32,p.1]]).length=2*ms.length:=by
  intro ms;induction ms with
  | nil=>intro s;rfl
  | cons a ms ih=>intro s;simp only[List.zipIdx_cons,List.flatMap_cons,List.length_append,ih];simp;omega
 have h:=this ms 0;show (gu (r0::r1::ms)).length≤2*j
 unfold gu;simp only;rw[h];omega
theorem a57 (w:World) :
  Calls prog 149 #[] w fun e w'=>∃ v,e=.returned v∧Tab w' w.heap.size v tab∧Below w.heap.size w w':=by
 obtain⟨i0,hi,an,al,am⟩:=info_parts Zk;go_enter func149,ntmps149;go_wp2;go_loopw [1,32] (fun out i wr=>Il w out i wr) (fun _ i _=>8-(intOf i).toNat)
 case atStart =>
  exact Rx w _ _ _ (Mm w) (Mm w.drew) (Mm w.drew.drew)
 case round =>
  obtain⟨k,hk,rfl,hT,hR,a9,a5⟩:=hrel;by_cases ao:k<8
  .obtain⟨vs,a0,a7⟩:=hR
   obtain⟨row,a4⟩:∃ row,jv[k]? = some row:=⟨_,List.getElem?_eq_getElem ao⟩
   obtain⟨x,hx,hI⟩:=a7 k row a4;have c0:=a0.cellAt k (by show k<8*1;omega);rw[hx]at c0;have ah:∃ r0 r1 ms,row=r0::r1::ms∧1≤ms.length∧ms.length≤6∧0≤r0∧r0≤300∧0≤r1∧r1≤300:=by
    have:∀ row ∈ jv,∃ r0 r1 ms,row=r0::r1::ms∧1≤ms.length∧ms.length≤6∧0≤r0∧r0≤300∧0≤r1∧r1≤300:=by
     intro row h;simp only[jv,List.mem_cons,List.not_mem_nil,or_false]at h;rcases h with rfl|rfl|rfl|rfl|rfl|rfl|rfl|rfl <;> exact⟨_,_,_,rfl,by simp,by simp,by omega,by omega,by omega,by omega⟩
    exact this row (List.mem_of_getElem? a4)
   obtain⟨r0,r1,ms,rfl,ay,az,aq,ar,au,av⟩:=ah;rcases hI.form with ⟨_,h0⟩|⟨h,cap,rfl,ag,ab⟩
   .cases h0
   simp only[List.length_cons]at hI ag c0;unfold maxLen at ab;have ax:cap≠2:=by omega
   have aj:Tab wr w.heap.size (.slice (some ⟨w.heap.size+1+1+1+1+1+1+1+1+1+1+1+1+1+1+1+1+1+1,0,none⟩) 8 8) jv:=⟨vs,a0,a7⟩;have ae:Hid _:=a4;have ak:(k:Int)<8:=by omega
   clear a0 a7 a4 hx;go_wp2_with fail;go_loopw [1,39] (fun out i wr=>ar6 w h cap r0 r1 ms (ni++(jv.take k).flatMap gu) out i wr) (fun _ i _=>ms.length-(intOf i).toNat)
   case atStart=>exact⟨0,Nat.zero_le _,rfl,by simpa using hT,aj,hI,a9,a5⟩
   case round =>
    clear hT aj hI a9 a5 c0;obtain⟨j,hj,rfl,hT,hR,hI,a9,a5⟩:=hrel;by_cases ad:j<ms.length
    .obtain⟨m,hm⟩:∃ m,ms[j]? = some m:=⟨_,List.getElem?_eq_getElem ad⟩
     have d0:wr.cell? ⟨h,0,none⟩=some (.int .i64 r0):=hI.cellAt 0 (by omega);have d1:wr.cell? ⟨h,1,none⟩=some (.int .i64 r1):=hI.cellAt 1 (by omega);have d2:=hI.cellAt (2+j) (by simp;omega);have e2:((r0::r1::ms).map (Value.int .i64))[2+j]? = some (.int .i64 m):=by
      rw[Nat.add_comm];simp[hm]
     rw[e2]at d2;obtain⟨vs,a0,a7⟩:=hT;have ap:=au8 k (by omega);have aw:((gu (r0::r1::ms)).take (2*j)).length≤2*j:=List.length_take_le _ _;obtain⟨N,ac⟩:∃ N,N=(ni++(jv.take k).flatMap gu++(gu (r0::r1::ms)).take (2*j)).length:=⟨_,rfl⟩
     have hN:N≤80:=by rw[ac,List.length_append];omega
     rw[<- ac]at a0;have HN:Hid _:=ac;clear ac ap aw;have HM:Hid _:=hm;clear e2 hm;have q0:(0:Int)<(ms.length:Int)+1+1:=by omega
     have q1:(1:Int)<(ms.length:Int)+1+1:=by omega
     have a8:=(World.ownsRow.lt hI h rfl).2;have a3:some h≠_:=fun e=>by
      rcases sg hI a0 with h1|h1
      .cases h1
      .exact h1 e
     have aA:=a5.size;have aB:IntKind.i64.wrap (r0+(j:Int))=r0+(j:Int):=by rw[IntKind.wrap_i64];omega
     have aC:IntKind.i64.wrap (r0+(j:Int)+32)=r0+(j:Int)+32:=by rw[IntKind.wrap_i64];omega
     have aD:IntKind.i64.wrap (r1+32)=r1+32:=by rw[IntKind.wrap_i64];omega
     go_wp2_with fail;go_region_held_law (fun w'=>w'.cell? ⟨h,0,none⟩=some (.int .i64 r0)∧w'.cell? ⟨h,1,none⟩=some (.int .i64 r1)) (first|exact⟨Is _ _ _ _ _ _ a8 d0,Is _ _ _ _ _ _ a8 d1⟩|exact⟨k0,k1⟩|go_keep)
      (first
       | (refine step_append_lies _ rfl (.tmp 44) (.tmp 67) 218 rfl w.heap.size 39 i0 (.slice none 0 0) 1 24 underlying218 hi an al am rfl (by decide) _ _ vs (by simp[Act.eval]) (((a0.alloc _).alloc _).alloc _) ⟨wr.heap.size+1+1,0,none⟩ 2 2 [(.slice (some ⟨wr.heap.size,0,none⟩) 3 3),(.slice (some ⟨wr.heap.size+1,0,none⟩) 3 3)] (by simp[Act.eval]) rfl (ak0 _ _ _ _ _ _) (fun x hx=>by simp at hx;rcases hx with rfl|rfl <;> rfl) (by omega) (by unfold maxLen;omega) (by omega) (by simp;omega) (wr.heap.size+1+1+1) (by simp) ?_;intro g' af w' a2 a1 a6 ai;have k0:w'.cell? ⟨h,0,none⟩=some (.int .i64 r0):=(a1.cell_far ⟨h,0,none⟩ (by simp;omega) a3).trans (Is _ _ _ _ _ _ a8 d0);have k1:w'.cell? ⟨h,1,none⟩=some (.int .i64 r1):=(a1.cell_far ⟨h,1,none⟩ (by simp;omega) a3).trans (Is _ _ _ _ _ _ a8 d1))
       | (refine step_append_lies _ rfl (.tmp 44) (.tmp 67) 218 rfl w.heap.size 39 i0 (.slice none 0 0) 1 24 underlying218 hi an al am rfl (by decide) _ _ vs (by simp[Act.eval]) (((a0.alloc _).alloc _).alloc _) ⟨wr.heap.size+1+1,0,none⟩ 2 2 [(.slice (some ⟨wr.heap.size+1,0,none⟩) 3 3),(.slice (some ⟨wr.heap.size,0,none⟩) 3 3)] (by simp[Act.eval]) rfl (ak0 _ _ _ _ _ _) (fun x hx=>by simp at hx;rcases hx with rfl|rfl <;> rfl) (by omega) (by unfold maxLen;omega) (by omega) (by simp;omega) (wr.heap.size+1+1+1) (by simp) ?_;intro g' af w' a2 a1 a6 ai;have k0:w'.cell? ⟨h,0,none⟩=some (.int .i64 r0):=(a1.cell_far ⟨h,0,none⟩ (by simp;omega) a3).trans (Is _ _ _ _ _ _ a8 d0);have k1:w'.cell? ⟨h,1,none⟩=some (.int .i64 r1):=(a1.cell_far ⟨h,1,none⟩ (by simp;omega) a3).trans (Is _ _ _ _ _ _ a8 d1)))
     .go_wp2
      have aa:=Kd HN.out _ _ _ ad HM.out a0 a7 hR hI a9 a5 _ _ (f3 _ rfl (Lq wr _ _ _).1 (by omega) (by unfold maxLen;simp)) (f3 _ rfl (Lq wr _ _ _).2 (by omega) (by unfold maxLen;simp)) a2 (rh a1) a6;go_roundw
      case rel=>first|exact aa|((repeat apply Exists.intro);exact⟨aa,rfl⟩)
      case measure=>simp[intOf];omega
     .go_wp2
      have aa:=Kd HN.out _ _ _ ad HM.out a0 a7 hR hI a9 a5 _ _ (f3 _ rfl (Lq wr _ _ _).2 (by omega) (by unfold maxLen;simp)) (f3 _ rfl (Lq wr _ _ _).1 (by omega) (by unfold maxLen;simp)) a2 (rh a1) a6;go_roundw
      case rel=>first|exact aa|((repeat apply Exists.intro);exact⟨aa,rfl⟩)
      case measure=>simp[intOf];omega
    .rw[Uh r0 r1 ms j ad,<- a58 ae.out]at hT
     go_wp2;exact⟨⟨k+1,by omega,by go_num,hT,hR,a9,a5⟩,by simp[intOf];omega⟩
  .have ak:k=8:=by omega
   subst ak;go_wp2;go_ret;exact⟨_,rfl,hT,a5⟩
theorem oj (r lo hi:Int) (h:lo≤r∧r≤hi) (w:World):Calls prog 34 #[.int .i64 r,.int .i64 lo,.int .i64 hi] w fun e w'=>e=.returned (.bool true)∧w'=w:=by
 obtain⟨h1,h2⟩:=h;go_enter func34,ntmps34;go_wp2;go_ret;exact⟨jj (by simp;try omega),rfl⟩
theorem jn (r lo hi:Int) (h:¬ (lo≤r∧r≤hi)) (w:World):Calls prog 34 #[.int .i64 r,.int .i64 lo,.int .i64 hi] w fun e w'=>e=.returned (.bool false)∧w'=w:=by
 by_cases h1:lo≤r
 .have h2:¬ r≤hi:=fun h2=>h ⟨h1,h2⟩
  clear h;go_enter func34,ntmps34;go_wp2;go_ret;exact⟨jj (by simp;try omega),rfl⟩
 .clear h
  go_enter func34,ntmps34;go_wp2;go_ret;exact⟨jj (by simp;try omega),rfl⟩
def Gh (r:Int) (k:Nat):Prop:=∀ j t,j<k→tab[j]? = some t→at0 t 0≠r
theorem am8 (r:Int) (k:Nat) (t:List Int) (h:Gh r k) (ht:tab[k]? = some t) (hr:at0 t 0=r):tab.find? (fun t=>at0 t 0 == r)=some t:=by
 rw[List.find?_eq_some_iff_getElem];obtain⟨hk,e⟩:=List.getElem?_eq_some_iff.1 ht;refine⟨by simp[hr],k,hk,e,fun j hj=>?_⟩;have:=h j tab[j] hj (List.getElem?_eq_getElem (by omega));simpa using this
theorem am9 (r:Int) (k:Nat) (h:Gh r k) (hk:¬ k<tab.length):tab.find? (fun t=>at0 t 0 == r)=none:=by
 rw[List.find?_eq_none];intro t ht;obtain⟨j,hj⟩:=List.mem_iff_getElem?.1 ht;have:=(List.getElem?_eq_some_iff.1 hj).1;simpa using h j t (by omega) hj
theorem fe {w:World} {B B':Nat} {v:Value} {zs:List Int}(h:ab w B' v zs) (hB:B≤B'):ab w B v zs:=by
 obtain⟨h1,h2⟩:=h;refine⟨h1,?_⟩;rcases h2 with h2|⟨g,cap,cur,a,b,c⟩
 .exact .inl h2
 .exact .inr ⟨g,cap,cur,a,by omega,c⟩
theorem qh (w:World) (zs:List Int) (n:Nat) (hn:zs.length=n) (hz:n≤maxLen) (cs:Array Value) (a0:cs=(zs.map (Value.int .i64)).toArray):ab (w.alloc (.cells cs 3)) w.heap.size (.slice (some ⟨w.heap.size,0,none⟩) n n) zs:=by
 subst hn;exact f3 zs a0 (heap_alloc_new w _) bR hz
theorem Xx (w:World) (r:Int) (h1:r≠8491) (h2:¬ (44032≤r∧r≤55203)) :
  Calls prog 126 #[.int .i64 r] w fun e w'=>∃ v,e=.returned v∧ab w' w.heap.size v (apart r)∧Below w.heap.size w w':=by
 have ha:apart r=match tab.find? (fun t=>at0 t 0 == r) with|some t=>[at0 t 1,at0 t 2]|none=>[r]:=by
  unfold apart;rw[if_neg h1,if_neg h2];rfl
 have HA:Hid _:=ha;have a8:(r == 8491)=false:=by simpa using h1
 have N:=fun w=>jn r 44032 55203 h2 w
 have T:=fun w=>a57 w
 clear ha h1 h2;go_enter func126,ntmps126;go_wp2_with fail;refine (N _).mono ?_;rintro e w1 ⟨rfl,rfl⟩;go_wp2_with fail;refine (T _).mono ?_;rintro e w2 ⟨v,rfl,⟨vs,a0,a2⟩,hb⟩;rw[J8]at a0;obtain⟨g,cap,rfl⟩:∃ g cap,v=.slice (some ⟨g,0,none⟩) 57 cap:=by
  rcases a0.2 with ⟨_,h0⟩|⟨g,cap,_,h,_⟩
  .omega
  .exact⟨g,cap,h⟩
 clear T N;go_wp2_with fail;go_loop [34] (fun i=>∃ k:Nat,k≤57∧i=.int .i64 k∧Hid (Gh r k)) (fun i=>57-(intOf i).toNat)
 case atStart=>exact⟨0,Nat.zero_le _,rfl,fun j t hj=>by omega⟩
 case round =>
  obtain⟨k,hk,rfl,HN⟩:=hrel;by_cases a4:k<57
  .obtain⟨t,ht⟩:∃ t,tab[k]? = some t:=⟨_,List.getElem?_eq_getElem (by rw[J8];exact a4)⟩
   obtain⟨x,hx,hI⟩:=a2 k t ht;have a7:=a56 t (List.mem_of_getElem? ht);have c0:=a0.cellAt k (by omega);rw[hx]at c0;obtain⟨a,b,c,rfl⟩:∃ a b c,t=[a,b,c]:=by
    match t,a7 with
    | [a,b,c],_=>exact⟨a,b,c,rfl⟩
   rcases hI.form with ⟨_,h0⟩|⟨h,a6,rfl,a1,a3⟩
   .cases h0
   have d0:w2.cell? ⟨h,0,none⟩=some (.int .i64 a):=hI.cellAt 0 (by simp);have d1:w2.cell? ⟨h,1,none⟩=some (.int .i64 b):=hI.cellAt 1 (by simp);have d2:w2.cell? ⟨h,2,none⟩=some (.int .i64 c):=hI.cellAt 2 (by simp);simp only[List.length_cons,List.length_nil]at c0 a1;have HT:Hid _:=ht;have a9:(k:Int)<57:=by omega
   clear a2 a0 ht hx hI;by_cases e:a=r
   .subst e
    have HF:=am8 a k _ HN.out HT.out rfl;have HR:Hid (apart a=[b,c]):=by show _=_;rw[HA.out,HF];rfl
    clear HF HA;go_wp2_with fail;go_region
    go_wp2;go_ret;rw[HR.out];exact⟨_,rfl,fe (qh w2 [b,c] 2 rfl (by unfold maxLen;omega) _ rfl) hb.size,(hb.alloc hb.size _).drew⟩
   .have e2:(a == r)=false:=by simpa using e
    have a5:Hid (Gh r (k+1)):=by
     intro j t hj h;by_cases ej:j=k
     .subst ej;rw[HT.out]at h;cases h;exact e
     .exact HN.out j t (by omega) h
    clear e HA;go_wp2;exact⟨⟨k+1,by omega,by go_num,a5⟩,by simp[intOf];omega⟩
  .have HF:=am9 r k HN.out (by rw[J8];exact a4)
   have HR:Hid (apart r=[r]):=by show _=_;rw[HA.out,HF]
   clear HF HA a2 a0;go_wp2;go_ret;rw[HR.out];exact⟨_,rfl,fe (qh w2 [r] 1 rfl (by unfold maxLen;omega) _ rfl) hb.size,hb.alloc hb.size _⟩
theorem au0 (w:World) (o1 o2 o3:Obj):(((w.alloc o1).alloc o2).alloc o3).heap[w.heap.size+1+1]? = some o3:=by
 have e:((w.alloc o1).alloc o2).heap.size=w.heap.size+1+1:=by simp
 rw[<- e];exact heap_alloc_new _ o3
theorem b28 (w:World):3≤(Question.appendCap 3 2 3).cut (w.tape w.drawn (Question.appendCap 3 2 3))∧(Question.appendCap 3 2 3).cut (w.tape w.drawn (Question.appendCap 3 2 3))≤maxLen :=
 ⟨grownCap_ge w 3 2 3,grownCap_le_maxLen w 3 2 3 (by unfold maxLen;omega)⟩
theorem Xw (w:World):Calls prog 126 #[.int .i64 8491] w fun e w'=>∃ v,e=.returned v∧ab w' w.heap.size v (apart 8491)∧Below w.heap.size w w':=by
 have ha:apart 8491=[197]:=by decide
 rw[ha];go_enter func126,ntmps126;go_wp2;go_ret;exact⟨_,rfl,qh w [197] 1 rfl (by unfold maxLen;omega) _ rfl,bY _⟩
theorem Pz (w:World) (r:Int) (h1:44032≤r) (h2:r≤55203):Calls prog 126 #[.int .i64 r] w fun e w'=>∃ v,e=.returned v∧ab w' w.heap.size v (apart r)∧Below w.heap.size w w':=by
 have Y:=fun w=>oj r 44032 55203 ⟨h1,h2⟩ w
 have a0:(r == 8491)=false:=by simp;omega
 have ha:apart r=[4352+(r-44032) / 588,4449+(r-44032) % 588 / 28]++(if 0<(r-44032) % 28 then [4519+(r-44032) % 28] else []):=by
  unfold apart;rw[if_neg (by omega),if_pos ⟨h1,h2⟩]
 by_cases c:0<(r-44032) % 28
 .have HA:Hid (apart r=[4352+(r-44032) / 588,4449+(r-44032) % 588 / 28]++[4519+(r-44032) % 28]):=by show _=_;rw[ha,if_pos c]
  clear ha;go_enter func126,ntmps126;go_wp2_with fail;refine (Y _).mono ?_;rintro e w1 ⟨rfl,rfl⟩;clear Y;go_wp2;go_ret;rw[HA.out];have hc:=b28 w1;refine⟨_,rfl,At _ 3 rfl ?_ ?_ (au0 w1 _ _ _) (by omega) hc.1 hc.2,(((bY _).alloc (by simp) _).alloc (by simp;omega) _).drew⟩
  .simp
  .simp[size_zeroCells];omega
 .have HA:Hid (apart r=[4352+(r-44032) / 588,4449+(r-44032) % 588 / 28]):=by show _=_;rw[ha,if_neg c];simp
  clear ha;go_enter func126,ntmps126;go_wp2_with fail;refine (Y _).mono ?_;rintro e w1 ⟨rfl,rfl⟩;clear Y;go_wp2;go_ret;rw[HA.out];exact⟨_,rfl,qh w1 _ 2 rfl (by unfold maxLen;omega) _ rfl,bY _⟩
theorem Jd (w:World) (r:Int):Calls prog 126 #[.int .i64 r] w fun e w'=>∃ v,e=.returned v∧ab w' w.heap.size v (apart r)∧Below w.heap.size w w':=by
 by_cases h1:r=8491
 .subst h1;exact Xw w
 by_cases h2:44032≤r∧r≤55203
 .exact Pz w r h2.1 h2.2
 .exact Xx w r h1 h2
end Go.Proofs.YtjbmgghehdemdaaGreatDoor
