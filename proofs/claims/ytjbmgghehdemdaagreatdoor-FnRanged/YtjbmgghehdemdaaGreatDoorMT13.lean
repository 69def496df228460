/- SMark -/
import Derived.Test.YtjbmgghehdemdaaGreatDoorMT8
import Derived.Deep.RegionLaw
import Derived.Deep.DrawnRows
import Derived.Deep.MidRow
import Derived.Test.YtjbmgghehdemdaaGreatDoorMT9
import Derived.Test.YtjbmgghehdemdaaGreatDoorMT12
namespace Go.Proofs.YtjbmgghehdemdaaGreatDoor
set_option maxRecDepth 100000
set_option maxHeartbeats 16000000
open _root_.Go.Proofs.Tryz
open Go.RowKit
theorem pc {a3:Array Oper} {o:Oper} {a:Act} {w:World} {K:Act→World→Prop} {Q:Exit→Act→World→Prop} {E:Prop}(hw:Region.wanted o (yielded a3 a.tmps)=true) (s x:Operand)
  (ho:o.op=.call { callee:=.builtin .append,args:=#[s,x],argTypes:=#[39,39] }) (B:Nat) (v:Value) (l l':List Int) (hs:a.eval s=v) (a2:ab w B v l)
  (ad:Addr) (m c:Nat) (hx:a.eval x=.slice (some ad) m c) (a4:l'.length=m) (a1:∀ j u,(l'.map (Value.int .i64))[j]? = some u→w.cell? (ad.add j)=some u) (hm:0<m) (hb:l.length+m≤1048576) (a0:B≤w.heap.size) (N:Nat) (hN:N=l.length+m) (L:List Int) (hL:L=l++l')
  (h:∀ g cap w',ab w' B (.slice (some ⟨g,0,none⟩) N cap) L→w.grownBy w' v.ownBlock→g<w'.heap.size→K (a.put o.dst (.slice (some ⟨g,0,none⟩) N cap)) w') :
  if Region.wanted o (yielded a3 a.tmps)=true then Oper.wp prog o a w K Q else E:=by
 obtain⟨i0,hi,a7,a5,a6⟩:=info_parts dv;rw[if_pos hw];subst hN;subst hL;subst a4;refine wp_append_lies w s x 39 ho B 3 i0 (.int .i64 0) 1 8 underlying39 hi a7 a5 a6 rfl (by decide) v l.length (l.map (Value.int .i64)) hs a2 ad l'.length c (l'.map (Value.int .i64)) hx (by simp) a1 (fun u hu=>by obtain⟨y,_,rfl⟩:=List.mem_map.1 hu;rfl) hm (by unfold maxLen;omega) (by omega) a0 w.heap.size rfl fun g cap w' h1 h2 _ h4=>h g cap w' ?_ h2 h4
 unfold ab;rw[List.length_append,List.map_append];exact h1
theorem uc (w:World) (n B:Nat) (hn:n=w.heap.size) (hB:B≤n):ab (w.alloc (.cells #[] 3)) B (.slice (some ⟨n,0,none⟩) 0 0) []:=by
 subst hn;exact⟨rfl,.inr ⟨w.heap.size,0,#[],rfl,hB,heap_alloc_new _ _,bR,Nat.zero_le _,rfl,rfl⟩⟩
theorem Zl {w:World} {B:Nat} {v:Value} {l:List Int}(h:ab w B v l):ab w.drew B v l:=h
theorem As {w:World} {B:Nat} {v:Value} {l:List Int}(h:ab w B v l) (o:Obj):ab (w.alloc o) B v l:=World.ownsRow.alloc h o
def ig (w:World) (n:Nat) (x:Int):Prop:=n<w.heap.size∧w.cell? ⟨n,0,none⟩=some (.int .i64 x)
theorem ig.new (w:World) (n:Nat) (x:Int) (hn:n=w.heap.size):ig (w.alloc (.cells #[.int .i64 x] 3)) n x:=by
 subst hn;exact⟨by simp,by simp⟩
theorem ig.alloc {w:World} {n:Nat} {x:Int}(h:ig w n x) (o:Obj):ig (w.alloc o) n x :=
 ⟨Nat.lt_of_lt_of_le h.1 (by simp),(World.cell?_of_block (Below.heap_alloc _ _ _ h.1)).trans h.2⟩
theorem ig.grown {w w':World} {row:Option Nat} {n:Nat} {x:Int}(h:ig w n x) (hg:w.grownBy w' row) (a0:some n≠row):ig w' n x :=
 ⟨Nat.lt_of_lt_of_le h.1 hg.size,(hg.cell_far _ h.1 a0).trans h.2⟩
theorem ig.news {w:World} {n:Nat} {x:Int}(h:ig w n x):∀ j u,(([x]:List Int).map (Value.int .i64))[j]? = some u→w.cell? ((⟨n,0,none⟩:Addr).add j)=some u:=by
 intro j u hj;match j,hj with
 | 0,hj=>simp at hj;subst hj;simpa [Addr.add] using h.2
theorem ig.of {w w':World} {n:Nat} {x:Int}(h:ig w n x) (e:w'.heap=w.heap):ig w' n x:=by
 refine⟨by rw[e];exact h.1,?_⟩;rw[World.cell?_of_block (w:=w) (w':=w') (by rw[e])];exact h.2
theorem nt {w w':World} {B:Nat} {v:Value} {l:List Int}(h:ab w B v l) (e:w'.heap=w.heap):ab w' B v l:=by
 unfold ab World.ownsRow at h ⊢;rw[e];exact h
theorem Rg (n:Nat):some (n+1)≠(Value.slice (some ⟨n,0,none⟩) 0 0).ownBlock:=fun e=>by injection e with e2;simp at e2
theorem Rf (n:Nat):some n≠(Value.slice (some ⟨n+1,0,none⟩) 0 0).ownBlock:=fun e=>by injection e with e2;simp at e2
theorem at4 {u W:World}(e:W.heap=(u.alloc (.cells #[] 3)).heap):ab W u.heap.size (.slice (some ⟨u.heap.size,0,none⟩) 0 0) []:=nt (uc u _ _ rfl bR) e
theorem at5 {u W:World} {x:Int}(e:W.heap=((u.alloc (.cells #[] 3)).alloc (.cells #[.int .i64 x] 3)).heap):ab W u.heap.size (.slice (some ⟨u.heap.size,0,none⟩) 0 0) []:=nt (As (uc u _ _ rfl bR) _) e
theorem at6 {u W:World} {x:Int}(e:W.heap=((u.alloc (.cells #[.int .i64 x] 3)).alloc (.cells #[] 3)).heap):ab W u.heap.size (.slice (some ⟨u.heap.size+1,0,none⟩) 0 0) []:=nt (uc _ _ _ (by simp) (by omega)) e
theorem b16 {u W W':World} {x:Int}(hg:W.grownBy W' (Value.slice (some ⟨u.heap.size,0,none⟩) 0 0).ownBlock) (e:W.heap=((u.alloc (.cells #[] 3)).alloc (.cells #[.int .i64 x] 3)).heap):ig W' (u.heap.size+1) x:=((ig.new _ _ x (by simp)).of e).grown hg (Rg _)
theorem b17 {u W W':World} {x:Int}(hg:W.grownBy W' (Value.slice (some ⟨u.heap.size+1,0,none⟩) 0 0).ownBlock) (e:W.heap=((u.alloc (.cells #[.int .i64 x] 3)).alloc (.cells #[] 3)).heap):ig W' u.heap.size x:=(((ig.new u _ x rfl).alloc _).of e).grown hg (Rf _)
def l6 (w u:World) (v:Value) (sh:Bool) (lv:Int):Prop:=u.heap[w.heap.size]? = some (.cells #[v,.bool sh,.int .i64 lv] 56)
theorem l6.below {w u u':World} {v:Value} {sh:Bool} {lv:Int}(h:l6 w u v sh lv) (hb:Below u.heap.size u u'):l6 w u' v sh lv:=by
 unfold l6;rw[hb.block _ (Array.getElem?_eq_some_iff.1 h).1];exact h
def ay6 (w:World) (es:List Ent) (run rest:List Int) (v:Value) (sh:Bool) (lv:Int) (ans:Int) (i:Value) (wr:World):Prop :=
 ∃ k:Nat,k≤rest.length∧i=.int .i64 k∧iu es run rest (rest.drop k) k=ans∧l6 w wr v sh lv∧Below w.heap.size w wr
theorem Zy (w:World) (B Br Bs gr cr gs cs:Nat) (v:Value) (es:List Ent) (sh:Bool) (lv:Int) (run rest:List Int) (hE:ac w B v es) (hn:es.length≤1048576) (hr:∀ e ∈ es,e.runes.length≤1048576)
  (hR:ab w Br (.slice (some ⟨gr,0,none⟩) run.length cr) run) (hS:ab w Bs (.slice (some ⟨gs,0,none⟩) rest.length cs) rest) (h1:1≤run.length) (az:run.length≤4000) (aA:rest.length≤4000) :
  Calls prog 151 #[.agg #[v,.bool sh,.int .i64 lv],.slice (some ⟨gr,0,none⟩) run.length cr,.slice (some ⟨gs,0,none⟩) rest.length cs] w fun e w'=>e=.returned (.int .i64 (kn es run rest))∧Below w.heap.size w w':=by
 obtain⟨i0,hi,aD,aB,aC⟩:=info_parts dv;obtain⟨ans,a6⟩:∃ ans,Hid (kn es run rest=ans):=⟨_,rfl⟩
 rw[a6.out];obtain⟨va,vn,vc,rfl⟩:∃ a n c,v=.slice a n c:=by
  rcases hE.form with ⟨rfl,_⟩|⟨_,_,rfl,_,_,_,_⟩
  .exact⟨_,_,_,rfl⟩
  .exact⟨_,_,_,rfl⟩
 have CL:=fun r w=>Bt r w
 have ap:rest.length≤cs:=by
  rcases hS.form with ⟨h,_⟩|⟨_,_,h,h2,_⟩
  .cases h
  .injection h with _ _ h3;omega
 go_enter func151,ntmps151;go_wp2;go_loopw [15] (fun i wr=>ay6 w es run rest (.slice va vn vc) sh lv ans i wr) (fun i _=>rest.length-(intOf i).toNat)
 case atStart=>exact⟨0,Nat.zero_le _,rfl,by rw[List.drop_zero];exact a6.out,heap_alloc_new w _,bY _⟩
 case round =>
  clear a6;obtain⟨k,hk,rfl,hA,hB,hb⟩:=hrel;have HA:Hid _:=hA;clear hA;by_cases ae:k<rest.length
  .obtain⟨m,hm⟩:∃ m,rest[k]? = some m:=⟨_,List.getElem?_eq_getElem ae⟩
   have c0:=ji (hS.below hb) k m hm;have ax:(k:Int)<(rest.length:Int):=by omega
   have aa:Hid ((if cls m=0 then -1 else if qd rest k (cls m)=false∧0≤atE es (run++[m]) then (k:Int) else iu es run rest (rest.drop (k+1)) (k+1))=ans):=by
    show _=_
    rw[<- HA.out,Nm hm];rfl
   clear HA;by_cases hc:cls m=0
   .have HF:Hid (-1=ans):=by show _=_;rw[<- aa.out,if_pos hc]
    have C0:=fun w=>CL m w
    rw[hc]at C0;clear aa CL;go_wp2_with fail;refine (C0 _).mono ?_;rintro e w3 ⟨rfl,rfl⟩;go_wp2;go_ret;rw[<- HF.out];exact⟨rfl,hb⟩
   .have a5:Hid ((if qd rest k (cls m)=false∧0≤atE es (run++[m]) then (k:Int) else iu es run rest (rest.drop (k+1)) (k+1))=ans):=by show _=_;rw[<- aa.out,if_neg hc]
    have ao:(cls m == 0)=false:=by simpa using hc
    clear aa;obtain⟨c,HC⟩:∃ c,Hid (cls m=c):=⟨_,rfl⟩
    have C0:=fun w=>CL m w
    rw[HC.out]at C0 ao a5;have an:=hS.below hb;have ay:k≤cs:=by omega
    go_wp2_with fail;refine (C0 _).mono ?_;rintro e w3 ⟨rfl,au⟩;obtain rfl:wr=w3:=au.symm;clear C0 c0;go_wp2_with fail;go_loop [10,28] (fun bv i=>∃ j:Nat,j≤k∧i=.int .i64 j∧bv=.bool (qd rest j c)) (fun _ i=>k-(intOf i).toNat)
    case atStart=>exact⟨0,Nat.zero_le _,rfl,rfl⟩
    case round =>
     obtain⟨j,hj,rfl,rfl⟩:=hrel;by_cases aj:j<k
     .obtain⟨x,hx⟩:∃ x,rest[j]? = some x:=⟨_,List.getElem?_eq_getElem (by omega)⟩
      have cx:=ji an j x hx;have aw:(j:Int)<(k:Int):=by omega
      have a7:=a75 (c:=c) hx
      cases hbl:qd rest j c
      .have CX:=fun w=>CL x w
       rw[hbl,Bool.false_or]at a7;have ad:Hid _:=a7;clear a7 hx;go_wp2_with fail;refine (CX _).mono ?_;rintro e w4 ⟨rfl,av⟩;obtain rfl:wr=w4:=av.symm;clear CX;go_wp2;exact⟨⟨j+1,aj,by go_num,by rw[ad.out]⟩,by simp[intOf];omega⟩
      .rw[hbl,Bool.true_or]at a7
       have ad:Hid _:=a7;clear a7 hx;go_wp2;exact⟨⟨j+1,aj,by go_num,by rw[ad.out]⟩,by simp[intOf];omega⟩
     .have aq:j=k:=by omega
      subst aq;obtain⟨p0,p1,p2⟩:wr.cell? ⟨w.heap.size,0,none⟩=some (.slice va vn vc)∧wr.cell? ⟨w.heap.size,1,none⟩=some (.bool sh)∧wr.cell? ⟨w.heap.size,2,none⟩=some (.int .i64 lv):=⟨cell_of_row _ _ 0 _ _ _ hB,cell_of_row _ _ 1 _ _ _ hB,cell_of_row _ _ 2 _ _ _ hB⟩;generalize hbl:qd rest j c=bb
      cases bb
      .have HB:Hid (l6 _ _ _ _ _):=hB
       have ag:Hid _:=hb;have RC:∀ W:World,Below wr.heap.size wr W→∀ i u,(run.map (Value.int .i64))[i]? = some u→W.cell? ((⟨gr,0,none⟩:Addr).add i)=some u:=fun W hW i u hi=>by
        rw[List.getElem?_map,Option.map_eq_some_iff]at hi;obtain⟨y,hy,rfl⟩:=hi;rw[Addr.add_mid,hW.cell (Nat.lt_of_lt_of_le (World.ownsRow.lt hR gr rfl).2 hb.size),Nat.zero_add];exact ji (hR.below hb) i y hy
       have AT:=fun (W:World) (B':Nat) (v':Value) (hW:Below wr.heap.size wr W) (hi:ab W B' v' (run++[m]))=>ql (sh:=sh) (lv:=lv) ((hE.below hb).below hW) hi hn (by rw[List.length_append];simp;omega) hr
       go_wp2_with fail;have KS:Hid (∀ u,Below wr.heap.size wr u→u.cell? ⟨w.heap.size,0,none⟩=some (.slice va vn vc)∧u.cell? ⟨w.heap.size,1,none⟩=some (.bool sh)∧u.cell? ⟨w.heap.size,2,none⟩=some (.int .i64 lv)):=fun u hu=>(show _ from ⟨cell_of_row _ _ 0 _ _ _ (hB.below hu),cell_of_row _ _ 1 _ _ _ (hB.below hu),cell_of_row _ _ 2 _ _ _ (hB.below hu)⟩)
       go_region_held3 (fun u=>u.cell? ⟨w.heap.size,0,none⟩=some (.slice va vn vc)∧u.cell? ⟨w.heap.size,1,none⟩=some (.bool sh)∧u.cell? ⟨w.heap.size,2,none⟩=some (.int .i64 lv)) (exact KS.out _ (by repeat (first|with_reducible exact bX|with_reducible exact a2|with_reducible exact a1|with_reducible exact a0|with_reducible refine Below.drew ?_|with_reducible refine Below.alloc ?_ (by first|omega|(simp;done)|(simp;omega)) _))) ((first
        | (refine pc (by rfl) (.tmp 44) (.tmp 45) rfl wr.heap.size (.slice (some ⟨wr.heap.size,0,none⟩) 0 0) [] run rfl (at4 rfl) ⟨gr,0,none⟩ run.length cr rfl rfl (RC _ (by repeat (first|with_reducible exact bX|with_reducible exact a2|with_reducible exact a1|with_reducible exact a0|with_reducible refine Below.drew ?_|with_reducible refine Below.alloc ?_ (by first|omega|(simp;done)|(simp;omega)) _))) (by omega) (by simp;omega) (by first|omega|(simp;done)|(simp;omega)) run.length (by simp) run rfl ?_;intro g2 c2 w2 i2 a3 ak;have a0:Below wr.heap.size wr w2:=Below.grown (by repeat (first|with_reducible exact bX|with_reducible exact a2|with_reducible exact a1|with_reducible exact a0|with_reducible refine Below.drew ?_|with_reducible refine Below.alloc ?_ (by first|omega|(simp;done)|(simp;omega)) _)) a3 (by first|omega|(simp;done)|(simp;omega)) (fun k hk=>by simp[Value.ownBlock]at hk;omega);have a8:=a0.size;clear a3)
        | (refine pc (by rfl) (.tmp 44) (.tmp 45) rfl wr.heap.size (.slice (some ⟨wr.heap.size,0,none⟩) 0 0) [] run rfl (at5 (x:=m) rfl) ⟨gr,0,none⟩ run.length cr rfl rfl (RC _ (by repeat (first|with_reducible exact bX|with_reducible exact a2|with_reducible exact a1|with_reducible exact a0|with_reducible refine Below.drew ?_|with_reducible refine Below.alloc ?_ (by first|omega|(simp;done)|(simp;omega)) _))) (by omega) (by simp;omega) (by first|omega|(simp;done)|(simp;omega)) run.length (by simp) run rfl ?_;intro g2 c2 w2 i2 a3 ak;have a0:Below wr.heap.size wr w2:=Below.grown (by repeat (first|with_reducible exact bX|with_reducible exact a2|with_reducible exact a1|with_reducible exact a0|with_reducible refine Below.drew ?_|with_reducible refine Below.alloc ?_ (by first|omega|(simp;done)|(simp;omega)) _)) a3 (by first|omega|(simp;done)|(simp;omega)) (fun k hk=>by simp[Value.ownBlock]at hk;omega);have a8:=a0.size;have af:=b16 (x:=m) a3 rfl;clear a3)
        | (refine pc (by rfl) (.tmp 44) (.tmp 45) rfl wr.heap.size (.slice (some ⟨wr.heap.size+1,0,none⟩) 0 0) [] run rfl (at6 (x:=m) rfl) ⟨gr,0,none⟩ run.length cr rfl rfl (RC _ (by repeat (first|with_reducible exact bX|with_reducible exact a2|with_reducible exact a1|with_reducible exact a0|with_reducible refine Below.drew ?_|with_reducible refine Below.alloc ?_ (by first|omega|(simp;done)|(simp;omega)) _))) (by omega) (by simp;omega) (by first|omega|(simp;done)|(simp;omega)) run.length (by simp) run rfl ?_;intro g2 c2 w2 i2 a3 ak;have a0:Below wr.heap.size wr w2:=Below.grown (by repeat (first|with_reducible exact bX|with_reducible exact a2|with_reducible exact a1|with_reducible exact a0|with_reducible refine Below.drew ?_|with_reducible refine Below.alloc ?_ (by first|omega|(simp;done)|(simp;omega)) _)) a3 (by first|omega|(simp;done)|(simp;omega)) (fun k hk=>by simp[Value.ownBlock]at hk;omega);have a8:=a0.size;have af:=b17 (x:=m) a3 rfl;clear a3)
        | (refine pc (by rfl) (.tmp 46) (.tmp 48) rfl wr.heap.size (.slice (some ⟨g2,0,none⟩) run.length c2) run [m] rfl (nt (As i2 (.cells #[.int .i64 m] 3)) rfl) ⟨w2.heap.size,0,none⟩ 1 1 rfl rfl (ig.news ((ig.new w2 _ m rfl).of rfl)) (by omega) (by omega) (by have:=a0.size;first|omega|(simp;done)|(simp;omega)) (run.length+1) rfl (run++[m]) rfl ?_;intro g3 c3 w3 i3 a4 al;have a1:Below wr.heap.size wr w3:=Below.grown (by repeat (first|with_reducible exact bX|with_reducible exact a2|with_reducible exact a1|with_reducible exact a0|with_reducible refine Below.drew ?_|with_reducible refine Below.alloc ?_ (by first|omega|(simp;done)|(simp;omega)) _)) a4 (by have:=a0.size;first|omega|(simp;done)|(simp;omega)) (fun k hk=>(World.ownsRow.lt i2 k hk).1);have a9:=a1.size;clear a4)
        | (refine pc (by rfl) (.tmp 46) (.tmp 48) rfl wr.heap.size (.slice (some ⟨g2,0,none⟩) run.length c2) run [m] rfl (nt i2 rfl) ⟨wr.heap.size+1,0,none⟩ 1 1 rfl rfl (ig.news (af.of rfl)) (by omega) (by omega) (by have:=a0.size;first|omega|(simp;done)|(simp;omega)) (run.length+1) rfl (run++[m]) rfl ?_;intro g3 c3 w3 i3 a4 al;have a1:Below wr.heap.size wr w3:=Below.grown (by repeat (first|with_reducible exact bX|with_reducible exact a2|with_reducible exact a1|with_reducible exact a0|with_reducible refine Below.drew ?_|with_reducible refine Below.alloc ?_ (by first|omega|(simp;done)|(simp;omega)) _)) a4 (by have:=a0.size;first|omega|(simp;done)|(simp;omega)) (fun k hk=>(World.ownsRow.lt i2 k hk).1);have a9:=a1.size;clear a4)
        | (refine pc (by rfl) (.tmp 46) (.tmp 48) rfl wr.heap.size (.slice (some ⟨g2,0,none⟩) run.length c2) run [m] rfl (nt i2 rfl) ⟨wr.heap.size,0,none⟩ 1 1 rfl rfl (ig.news (af.of rfl)) (by omega) (by omega) (by have:=a0.size;first|omega|(simp;done)|(simp;omega)) (run.length+1) rfl (run++[m]) rfl ?_;intro g3 c3 w3 i3 a4 al;have a1:Below wr.heap.size wr w3:=Below.grown (by repeat (first|with_reducible exact bX|with_reducible exact a2|with_reducible exact a1|with_reducible exact a0|with_reducible refine Below.drew ?_|with_reducible refine Below.alloc ?_ (by first|omega|(simp;done)|(simp;omega)) _)) a4 (by have:=a0.size;first|omega|(simp;done)|(simp;omega)) (fun k hk=>(World.ownsRow.lt i2 k hk).1);have a9:=a1.size;clear a4)
        | (go_at_call 57;refine (AT _ _ _ (by repeat (first|with_reducible exact bX|with_reducible exact a2|with_reducible exact a1|with_reducible exact a0|with_reducible refine Below.drew ?_|with_reducible refine Below.alloc ?_ (by first|omega|(simp;done)|(simp;omega)) _)) (by repeat (first|with_reducible exact i3|with_reducible refine Zl ?_|with_reducible refine As ?_ _))).mono ?_;rintro e w4 ⟨rfl,b4⟩;have a2:Below wr.heap.size wr w4:=a1.trans (Below.mono (by first|exact b4|exact (bX.drew).trans b4) a1.size))))
       all_goals
        have ai:Below w.heap.size w w4:=ag.out.trans (a2.mono ag.out.size);have ah:Hid _:=ai;have am:Hid (l6 _ _ _ _ _):=hB.below a2;clear AT RC KS ai a2 a1 a0 i3 i2 b4;by_cases hp:0≤atE es (run++[m])
        .have HF:Hid ((j:Int)=ans):=by show _=_;rw[<- a5.out,if_pos ⟨hbl,hp⟩]
         clear a5;go_wp2;go_ret;rw[<- HF.out];exact⟨rfl,ah.out⟩
        .have HF:Hid (iu es run rest (rest.drop (j+1)) (j+1)=ans):=by show _=_;rw[<- a5.out,if_neg (fun c=>hp c.2)]
         clear a5;go_wp2;exact⟨⟨j+1,ae,by go_num,HF.out,am.out,ah.out⟩,by simp[intOf];omega⟩
      .have HF:Hid (iu es run rest (rest.drop (j+1)) (j+1)=ans):=by show _=_;rw[<- a5.out,if_neg (by simp[hbl])]
       clear a5 CL;go_wp2_with fail;go_quiet (fail)
       go_wp2;exact⟨⟨j+1,ae,by go_num,HF.out,hB.below (below_drewN bX _),below_drewN hb _⟩,by simp[intOf];omega⟩
  .have ar:k=rest.length:=by omega
   subst ar;have HF:Hid (-1=ans):=by show _=_;rw[<- HA.out,List.drop_length];rfl
   clear HA CL;go_wp2;go_ret;rw[<- HF.out];exact⟨rfl,hb⟩
theorem Nb {w wr w2:World} {row a0:Option Nat}(h:w.grownBy wr row) (h2:wr.grownBy w2 a0) (hr:a0=row∨∀ g,a0=some g→w.heap.size≤g):w.grownBy w2 row:=by
 refine⟨h2.os.trans h.os,h2.tape.trans h.tape,h2.output.trans h.output,Nat.le_trans h.size h2.size,fun k hk hne=>?_⟩;rw[h2.block k (Nat.lt_of_lt_of_le hk h.size) ?_]
 .exact h.block k hk hne
 .rcases hr with rfl|hr
  .exact hne
  .intro e
   have:=hr k e.symm;omega
theorem Eo {w w':World} {h:Nat} {row:Option Nat} {zs:List Int}(hh:db w h zs) (hg:w.grownBy w' row) (a0:row≠some h):db w' h zs:=by
 obtain⟨t,fr,e⟩:=hh;refine⟨t,fr,?_⟩;rw[hg.block h ((Array.getElem?_eq_some_iff.1 e).1) (fun c=>a0 c.symm)];exact e
def tj (w:World) (B:Nat) (l:Value) (acc:List Int) (v:Value) (w':World):Prop:=ab w' B v acc∧w.grownBy w' l.ownBlock∧(v.ownBlock=l.ownBlock∨∀ g,v.ownBlock=some g→w.heap.size≤g)
def yt (w:World):Prop:=db w 10 yw∧db w 11 xq
theorem yt.below {w w':World}(h:yt w) (hb:Below w.heap.size w w'):yt w':=⟨h.1.below hb h.1.lt,h.2.below hb h.2.lt⟩
theorem a11 {w:World} {B h:Nat} {l:Value} {acc:List Int}(hI:ab w B l acc) (hB:h<B):l.ownBlock≠some h:=fun e=>by
 have:=(World.ownsRow.lt hI h e).1;omega
theorem M1 (n:Nat) (r:Int) (w:World) (B:Nat) (l:Value) (acc:List Int) (h:apart r=[r]) (hg:bp r=true) (hI:ab w B l acc) (ha:acc.length≤4000) (hB:B≤w.heap.size) (ht:yt w) :
  Calls prog 211 #[l,.int .i64 r] w fun e w'=>∃ v,e=.returned v∧tj w B l (acc++full n r) v w':=by
 obtain⟨i0,hi,aa,a8,a9⟩:=info_parts dv;have A:=Bn r w ht.1 ht.2;rw[show zk r=[r] by unfold zk;rw[if_pos hg,h]]at A;rw[og h];clear h hg ht;go_enter func211,ntmps211;go_wp2_with fail;refine A.mono ?_;rintro e w1 ⟨v,rfl,a1,hb⟩;obtain⟨g,cap,rfl⟩:=jr a1 (by simp);have c0:=ji a1 0 r rfl;simp only[List.length_cons,List.length_nil]at a1;have a4:=hI.below hb;have a0:w1.ownsRow B 3 1 l acc.length (acc.map (Value.int .i64)):=a4;have ac:=hb.size;clear A
 go_wp2_with (at_builtin;refine wpList_append_lies _ rfl _ _ 39 rfl B 3 i0 (.int .i64 0) 1 8 underlying39 hi aa a8 a9 rfl (by decide) _ _ _ rfl (a0.alloc _) ⟨_,0,none⟩ 1 1 [.int .i64 r] rfl rfl (cell_one_new _ _ _) (fun x hx=>by simp at hx;subst hx;rfl) (by omega) (by unfold maxLen;omega) (by omega) (by simp;omega) (w1.heap.size+1) (by simp) ?_;intro g' a3 w2 a2 a6 a5 a7)
 go_ret;refine⟨_,rfl,ab.snoc a2,?_,?_⟩
 .exact (nh (hb.alloc hb.size _) _).trans a6
 .rcases a5 with e|e
  .exact .inl e.symm
  .refine .inr fun k hk=>?_
   have:g'=k:=Option.some.inj hk;omega
def Lu (w:World) (B:Nat) (l:Value) (acc:List Int) (gp cp:Nat) (f:Int→List Int) (ls:List Int) (lv i:Value) (wr:World):Prop :=
 ∃ k:Nat,k≤ls.length∧i=.int .i64 k∧tj w B l (acc++(ls.take k).flatMap f) lv wr∧ab wr w.heap.size (.slice (some ⟨gp,0,none⟩) ls.length cp) ls∧lv.ownBlock≠some gp∧yt wr∧w.heap.size≤wr.heap.size
theorem Je {w wr w2:World} {B k gp cp:Nat} {l lv v:Value} {acc ls:List Int} {f:Int→List Int} {x:Int}(hk:k<ls.length) (hx:ls[k]? = some x) (a3:10<B) (a4:11<B)
  (hp:tj w B l (acc++(ls.take k).flatMap f) lv wr) (hI:ab wr w.heap.size (.slice (some ⟨gp,0,none⟩) ls.length cp) ls) (a1:lv.ownBlock≠some gp) (ht:yt wr) (a2:w.heap.size≤wr.heap.size)
  (h2:tj wr B lv (acc++(ls.take k).flatMap f++f x) v w2):Lu w B l acc gp cp f ls v (.int .i64 ((k:Int)+1)) w2:=by
 obtain⟨i1,g1,n1⟩:=hp;obtain⟨i2,g2,n2⟩:=h2;have a0:lv.ownBlock=l.ownBlock∨∀ g,lv.ownBlock=some g→w.heap.size≤g:=n1
 have a5:gp<wr.heap.size:=(World.ownsRow.lt hI gp rfl).2;refine⟨k+1,hk,by go_num,⟨?_,Nb g1 g2 a0,?_⟩,World.ownsRow.kept hI g2 (.inr fun e=>a1 e.symm),?_,⟨Eo ht.1 g2 (a11 i1 a3),Eo ht.2 g2 (a11 i1 a4)⟩,Nat.le_trans a2 g2.size⟩
 .rw[Dc hx,<- List.append_assoc];exact i2
 .rcases n2 with e|e
  .rcases n1 with e1|e1
   .exact .inl (e.trans e1)
   .exact .inr fun g hg=>e1 g (e ▸ hg)
  .exact .inr fun g hg=>Nat.le_trans a2 (e g hg)
 .rcases n2 with e|e
  .rw[e];exact a1
  .intro h
   have:=e gp h;omega
theorem b05 (n:Nat) (aj:n≤2):∀ (r:Int) (w:World) (B:Nat) (l:Value) (acc:List Int),qg n r=true→bp r=true→ab w B l acc→acc.length+3 ^ n≤4000→B≤w.heap.size→10<B→11<B→yt w →
  Calls prog 211 #[l,.int .i64 r] w fun e w'=>∃ v,e=.returned v∧tj w B l (acc++full n r) v w':=by
 induction n with
 | zero=>exact fun r w B l acc h hg hI ha hB _ _ ht=>M1 0 r w B l acc (Kh h) hg hI (Nat.le_trans (Nat.le_add_right _ _) ha) hB ht
 | succ n ih0 =>
  intro r w B l acc a5 hg hI ha hB a7 a8 ht;have ih:=ih0 (by omega);by_cases hl:apart r=[r]
  .exact M1 _ r w B l acc hl hg hI (Nat.le_trans (Nat.le_add_right _ _) ha) hB ht
  .have ad:=(Kg a5).resolve_left hl
   have ac:=Gm hg;have A:=Bn r w ht.1 ht.2;rw[show zk r=apart r by unfold zk;rw[if_pos hg]]at A;have ag:=tm r;have hf:=wi (n:=n) hl;have h3:3 ^ (n+1)=3*3 ^ n:=by rw[Nat.pow_succ];omega
   have HB:Hid (∀ k,k<(apart r).length→(acc++((apart r).take k).flatMap (full n)).length+3 ^ n≤4000):=fun k hk=>by
    have h1:=pr (full n) (3 ^ n) ((apart r).take k) (Fp n);have h2:((apart r).take k).length*3 ^ n≤2*3 ^ n:=Nat.mul_le_mul_right _ (by simp;omega);rw[List.length_append];omega
   have IH:Hid (∀ x ∈ apart r,∀ (w:World) (l:Value) (acc:List Int),ab w B l acc→acc.length+3 ^ n≤4000→B≤w.heap.size→yt w→Calls prog 211 #[l,.int .i64 x] w fun e w'=>∃ v,e=.returned v∧tj w B l (acc++full n x) v w') :=
    fun x hx w l acc h1 h2 h3 h4=>ih x w B l acc (ad x hx) (ac x hx) h1 h2 h3 a7 a8 h4
   have HF:Hid _:=hf;clear ih ih0 a5 ad ac hg hf h3 ha;generalize apart r=ls at *;obtain⟨ah,ai⟩:=ag;by_cases h1:ls.length=1
   .obtain⟨y,hy⟩:∃ y,ls[0]? = some y:=⟨_,List.getElem?_eq_getElem (by omega)⟩
    have ak:(y == r)=false:=by
     simp only[beq_eq_false_iff_ne,ne_eq];intro e;subst e;apply hl
     match ls,h1,hy with
     | [z],_,hy=>simp at hy;rw[hy]
    have ae:((ls.length:Int) == 1)=true:=by simp;omega
    have af:(0:Int)<(ls.length:Int):=by omega
    clear hl;go_enter func211,ntmps211;go_wp2_with fail;refine A.mono ?_;rintro e w1 ⟨v,rfl,a1,hb⟩;obtain⟨g,cap,rfl⟩:=jr a1 (by omega);have c0:=ji a1 0 y hy;clear A hy h1;have a4:Lu w B l acc g cap (full n) ls l (.int .i64 0) w1:=⟨0,Nat.zero_le _,rfl,⟨by simpa using hI.below hb,nh hb _,.inl rfl⟩,a1,fun e=>by
     have h5:=(World.ownsRow.lt hI g e).2;have h6:=(World.ownsRow.lt a1 g rfl).1;omega,ht.below hb,hb.size⟩
    go_wp2_with fail;go_loopw [0,26] (fun lv i wr=>Lu w B l acc g cap (full n) ls lv i wr) (fun _ i _=>ls.length-(intOf i).toNat)
    case atStart=>exact a4
    case round =>
     clear a4 a1;obtain⟨k,hk,rfl,hp,a2,aa,a6,a0⟩:=hrel;by_cases a3:k<ls.length
     .obtain⟨x,hx⟩:∃ x,ls[k]? = some x:=⟨_,List.getElem?_eq_getElem a3⟩
      have c1:=ji a2 k x hx;have CA:=IH.out x (List.mem_of_getElem? hx) wr _ _ hp.1 (HB.out k a3) (Nat.le_trans hB a0) a6;have HX:Hid _:=hx;clear hx;go_wp2_with fail;refine CA.mono ?_;rintro e w2 ⟨v2,rfl,h2⟩;have HA:Hid _:=Je a3 HX.out a7 a8 hp a2 aa a6 a0 h2;clear CA c1 h2 hp a2;go_wp2;exact⟨HA.out,by simp[intOf];omega⟩
     .have a9:k=ls.length:=by omega
      subst a9;rw[List.take_length]at hp;go_wp2;go_ret;rw[HF.out];exact⟨_,rfl,hp⟩
   .have ae:((ls.length:Int) == 1)=false:=by simp;omega
    clear hl h1;go_enter func211,ntmps211;go_wp2_with fail;refine A.mono ?_;rintro e w1 ⟨v,rfl,a1,hb⟩;obtain⟨g,cap,rfl⟩:=jr a1 (by omega);clear A;have a4:Lu w B l acc g cap (full n) ls l (.int .i64 0) w1:=⟨0,Nat.zero_le _,rfl,⟨by simpa using hI.below hb,nh hb _,.inl rfl⟩,a1,fun e=>by
     have h5:=(World.ownsRow.lt hI g e).2;have h6:=(World.ownsRow.lt a1 g rfl).1;omega,ht.below hb,hb.size⟩
    go_wp2_with fail;go_loopw [0,26] (fun lv i wr=>Lu w B l acc g cap (full n) ls lv i wr) (fun _ i _=>ls.length-(intOf i).toNat)
    case atStart=>exact a4
    case round =>
     clear a4 a1;obtain⟨k,hk,rfl,hp,a2,aa,a6,a0⟩:=hrel;by_cases a3:k<ls.length
     .obtain⟨x,hx⟩:∃ x,ls[k]? = some x:=⟨_,List.getElem?_eq_getElem a3⟩
      have c1:=ji a2 k x hx;have CA:=IH.out x (List.mem_of_getElem? hx) wr _ _ hp.1 (HB.out k a3) (Nat.le_trans hB a0) a6;have HX:Hid _:=hx;clear hx;go_wp2_with fail;refine CA.mono ?_;rintro e w2 ⟨v2,rfl,h2⟩;have HA:Hid _:=Je a3 HX.out a7 a8 hp a2 aa a6 a0 h2;clear CA c1 h2 hp a2;go_wp2;exact⟨HA.out,by simp[intOf];omega⟩
     .have a9:k=ls.length:=by omega
      subst a9;rw[List.take_length]at hp;go_wp2;go_ret;rw[HF.out];exact⟨_,rfl,hp⟩
theorem al2 (r:Int) (w:World) (B:Nat) (l:Value) (acc:List Int) (hg:bp r=true) (hI:ab w B l acc) (ha:acc.length≤3900) (hB:B≤w.heap.size) (a0:10<B) (a1:11<B) (ht:yt w) :
  Calls prog 211 #[l,.int .i64 r] w fun e w'=>∃ v,e=.returned v∧tj w B l (acc++kw r) v w' :=
 b05 2 bR r w B l acc (au9 r) hg hI (by omega) hB a0 a1 ht
def Dt (zs:List Int):List Int:=if okR zs=true then nD zs else []
theorem ag7 {w:World} {B:Nat} {v:Value} {zs:List Int}(hz:zs.length≤1048576) (hI:ab w B v zs) (hB:7<B) (hm:db w 7 ij) :
  Calls prog 212 #[v] w fun e w'=>e=.returned (.tuple #[])∧ab w' B v (mc zs)∧w.grownBy w' v.ownBlock:=by
 rcases hI.form with ⟨rfl,rfl⟩|⟨g,cap,rfl,_,_⟩
 .refine (D7 w).mono ?_
  rintro e w' ⟨rfl,rfl⟩;rw[show mc []=[] by decide];exact⟨rfl,⟨rfl,.inl ⟨rfl,rfl⟩⟩,Ao _ _⟩
 .refine (Pc w B g cap zs.length zs hI hB hz hm).mono ?_
  rintro e w' ⟨rfl,hs⟩;refine⟨rfl,?_,hs.2.1⟩;have:=hs.1;unfold Own at this;unfold ab;rw[xz];exact this
def ar7 (w:World) (zs:List Int) (lv i:Value) (wr:World):Prop :=
 ∃ k:Nat,k≤zs.length∧i=.int .i64 k∧ab wr w.heap.size lv ((zs.take k).flatMap kw)∧Below w.heap.size w wr
theorem a03 {w wr w2:World} {zs:List Int} {k:Nat} {x:Int} {lv v:Value}(hk:k<zs.length) (hx:zs[k]? = some x) (h:ab wr w.heap.size lv ((zs.take k).flatMap kw)) (hb:Below w.heap.size w wr)
  (hp:tj wr w.heap.size lv ((zs.take k).flatMap kw++kw x) v w2):ar7 w zs v (.int .i64 ((k:Int)+1)) w2:=by
 refine⟨k+1,hk,by go_num,?_,Below.grown hb hp.2.1 hb.size (fun j hj=>(World.ownsRow.lt h j hj).1)⟩;rw[Dc hx];exact hp.1
theorem Z7 (w:World) (B g cap:Nat) (zs:List Int) (a0:okR zs=true) (hI:ab w B (.slice (some ⟨g,0,none⟩) zs.length cap) zs) (hm:db w 7 ij) (ht:yt w) :
  Calls prog 197 #[.slice (some ⟨g,0,none⟩) zs.length cap] w fun e w'=>∃ v',e=.returned (.tuple #[v',.bool true])∧ab w' w.heap.size v' (nD zs)∧Below w.heap.size w w':=by
 have G:=K8 hI;rw[a0]at G;have hz:=(qi a0).1;have HG:Hid (∀ x ∈ zs,bp x=true):=(qi a0).2;have HB:Hid (∀ k,((zs.take k).flatMap kw).length≤1800):=fun k=>Nat.le_trans (uw zs k wv) (by omega)
 clear a0;go_enter func197,ntmps197;go_wp2_with fail;refine G.mono ?_;rintro e w1 ⟨rfl,rfl⟩;clear G;go_wp2_with fail;go_loopw [4,12] (fun lv i wr=>ar7 w1 zs lv i wr) (fun _ i _=>zs.length-(intOf i).toNat)
 case atStart=>exact⟨0,Nat.zero_le _,rfl,⟨rfl,.inl ⟨rfl,rfl⟩⟩,bX⟩
 case round =>
  obtain⟨k,hk,rfl,ho,hbr⟩:=hrel;by_cases a1:k<zs.length
  .obtain⟨x,hx⟩:∃ x,zs[k]? = some x:=⟨_,List.getElem?_eq_getElem a1⟩
   have c1:=ji (hI.below hbr) k x hx;have CA:=al2 x wr w1.heap.size _ _ (HG.out x (List.mem_of_getElem? hx)) ho (Nat.le_trans (HB.out k) (by omega)) hbr.size ht.1.lt ht.2.lt (ht.below hbr);have HX:Hid _:=hx;clear hx;go_wp2_with fail;refine CA.mono ?_;rintro e w2 ⟨v2,rfl,h2⟩;have HA:Hid _:=a03 a1 HX.out ho hbr h2;clear CA c1 h2;go_wp2;exact⟨HA.out,by simp[intOf];omega⟩
  .have a2:k=zs.length:=by omega
   subst a2;rw[List.take_length]at ho;have R:=ag7 (zs:=apD zs) (Nat.le_trans (zj zs) (by omega)) ho hm.lt (hm.below hbr hm.lt);have HL:Hid (∀ j,Value.ownBlock _=some j→w1.heap.size≤j):=fun j hj=>(World.ownsRow.lt ho j hj).1
   clear ho;go_wp2_with fail;refine R.mono ?_;rintro e w2 ⟨rfl,h1,h2⟩;clear R;go_wp2;go_ret2;exact⟨_,rfl,h1,Below.grown hbr h2 hbr.size HL.out⟩
theorem Z6 (w:World) (hm:db w 7 ij) :
  Calls prog 197 #[.slice none 0 0] w fun e w'=>∃ v',e=.returned (.tuple #[v',.bool true])∧ab w' w.heap.size v' []∧Below w.heap.size w w':=by
 have G:=Hi w none 0;have R:=D7;go_enter func197,ntmps197;go_wp2_with fail;refine G.mono ?_;rintro e w1 ⟨rfl,rfl⟩;clear G;go_wp2_with fail;go_loop [4,12] (fun o i=>o=.slice none 0 0∧i=.int .i64 0) (fun _ _=>0)
 case atStart=>exact⟨rfl,rfl⟩
 case round =>
  obtain⟨rfl,rfl⟩:=hrel;go_wp2_with fail;refine (R _).mono ?_;rintro e w2 ⟨rfl,rfl⟩;clear R;go_wp2;go_ret2;exact⟨_,rfl,⟨rfl,.inl ⟨rfl,rfl⟩⟩,bX⟩
theorem K3 {w:World} {B:Nat} {v:Value} {zs:List Int}(hI:ab w B v zs) (hm:db w 7 ij) (hc:db w 10 yw) (ho:db w 11 xq) :
  Calls prog 197 #[v] w fun e w'=>∃ v',e=.returned (.tuple #[v',.bool (okR zs)])∧ab w' w.heap.size v' (Dt zs)∧Below w.heap.size w w':=by
 unfold Dt
 cases hok:okR zs
 .have G:=K8 hI
  rw[hok]at G;rw[if_neg (by simp)];clear hI hok hm hc ho;go_enter func197,ntmps197;go_wp2_with fail;refine G.mono ?_;rintro e w1 ⟨rfl,rfl⟩;clear G;go_wp2;go_ret2;exact⟨_,rfl,⟨rfl,.inl ⟨rfl,rfl⟩⟩,bX⟩
 .rw[if_pos rfl]
  rcases hI.form with ⟨rfl,rfl⟩|⟨g,cap,rfl,_,_⟩
  .rw[show nD []=[] by decide]
   exact Z6 w hm
  .exact Z7 w B g cap zs hok hI hm ⟨hc,ho⟩
theorem K0 (zs:List Int):(Dt zs).length≤1800:=by
 unfold Dt;split
 .rename_i h
  have h6:=(qi h).1;have h7:=zj zs;rw[zw];omega
 .simp
theorem Qz {w:World} {B:Nat} {v:Value} {zs:List Int}(hz:zs.length≤1048576) (hI:ab w B v zs) (hm:db w 7 ij) (hc:db w 10 yw) (ho:db w 11 xq) :
  Calls prog 198 #[v] w fun e w'=>e=.returned (.tuple #[.bool (isD zs),.bool (okR zs)])∧Below w.heap.size w w':=by
 have D:=K3 hI hm hc ho;have a0:=K0 zs;unfold isD;clear hm hc ho
 cases hok:okR zs
 .rw[hok]at D
  clear hI hok a0;go_enter func198,ntmps198;go_wp2_with fail;refine D.mono ?_;rintro e w1 ⟨v1,rfl,h1,h2⟩;clear D;go_wp2;go_ret2;exact⟨rfl,h2⟩
 .unfold Dt at D a0
  rw[hok,if_pos rfl]at D;rw[hok,if_pos rfl]at a0;clear hok;generalize nD zs=ds at *;go_enter func198,ntmps198;go_wp2_with fail;refine D.mono ?_;rintro e w1 ⟨v1,rfl,h1,h2⟩;have E:=Jv (by omega) hz h1 (hI.below h2);clear D;go_wp2_with fail;refine E.mono ?_;rintro e w2 ⟨rfl,n2,rfl⟩;clear E;go_wp2;go_ret2;exact⟨rfl,below_drewN h2 n2⟩
def Ms (e:El):Bool:=decide (1≤e.first∧e.first≤65535) && (decide (32≤e.second∧e.second≤999) && (decide (2≤e.third∧e.third≤99) && !e.varies))
theorem N8 (e:El) (w:World):Calls prog 178 #[.agg #[.int .i64 e.first,.int .i64 e.second,.int .i64 e.third,.bool e.varies]] w fun x w'=>x=.returned (.bool (Ms e))∧Below w.heap.size w w':=by
 obtain⟨b,HB⟩:∃ b,Hid (Ms e=b):=⟨_,rfl⟩
 rw[HB.out];obtain⟨a,c,d,v⟩:=e;simp only at *;have a0:=(Below.refl w.heap.size w).alloc bR (.cells #[.int .i64 a,.int .i64 c,.int .i64 d,.bool v] 111);have a1:∀ x,(x=true↔((1≤a∧a≤65535)∧(32≤c∧c≤999)∧(2≤d∧d≤99)∧v=false))→b=x:=by
  intro x hx;rw[<- HB.out];unfold Ms;rw[Bool.eq_iff_iff,hx];simp
 have HF:Hid _:=a1;clear a1 HB;by_cases h1:1≤a
 .by_cases h2:a≤65535
  .by_cases h3:32≤c
   .by_cases h4:c≤999
    .by_cases h5:2≤d
     .by_cases h6:d≤99
      .cases v
       .rw[HF.out true (by simp;omega)]
        clear HF;go_enter func178,ntmps178;go_wp2;go_ret;exact⟨rfl,a0⟩
       .rw[HF.out false (by simp)]
        clear HF;go_enter func178,ntmps178;go_wp2;go_ret;exact⟨rfl,a0⟩
      .rw[HF.out false (by simp;omega)]
       clear HF;go_enter func178,ntmps178;go_wp2;go_ret;exact⟨rfl,a0⟩
     .rw[HF.out false (by simp;omega)]
      clear HF;go_enter func178,ntmps178;go_wp2;go_ret;exact⟨rfl,a0⟩
    .rw[HF.out false (by simp;omega)]
     clear HF;go_enter func178,ntmps178;go_wp2;go_ret;exact⟨rfl,a0⟩
   .rw[HF.out false (by simp;omega)]
    clear HF;go_enter func178,ntmps178;go_wp2;go_ret;exact⟨rfl,a0⟩
  .rw[HF.out false (by simp;omega)]
   clear HF;go_enter func178,ntmps178;go_wp2;go_ret;exact⟨rfl,a0⟩
 .rw[HF.out false (by simp;omega)]
  clear HF;go_enter func178,ntmps178;go_wp2;go_ret;exact⟨rfl,a0⟩
def dr (w:World):Prop:=db w 7 ij∧db w 10 yw∧db w 11 xq
theorem dr.below {w w':World}(h:dr w) (hb:Below w.heap.size w w'):dr w':=⟨h.1.below hb h.1.lt,h.2.1.below hb h.2.1.lt,h.2.2.below hb h.2.2.lt⟩
theorem F9 {l:List Int}(h:¬ (1≤l.length∧l.length≤4)):bd l=false:=by
 unfold bd;rw[decide_eq_false h,Bool.false_and]
theorem Ow {l:List Int}(h:1≤l.length∧l.length≤4):bd l=(isD l && okR l):=by
 unfold bd isD;rw[decide_eq_true h,Bool.true_and]
 cases okR l <;> simp
theorem Au {w:World} {B:Nat} {v:Value} {l:List Int}(hz:l.length≤1048576) (hI:ab w B v l) (ht:dr w) :
  Calls prog 177 #[v] w fun e w'=>e=.returned (.bool (bd l))∧Below w.heap.size w w':=by
 have D:=Qz hz hI ht.1 ht.2.1 ht.2.2;obtain⟨a,c,rfl⟩:∃ a c,v=.slice a l.length c:=by
  rcases hI.form with ⟨rfl,rfl⟩|⟨g,cap,rfl,_,_⟩
  .exact⟨_,_,rfl⟩
  .exact⟨_,_,rfl⟩
 clear hI ht;by_cases h1:1≤l.length
 .by_cases h2:l.length≤4
  .rw[Ow ⟨h1,h2⟩]
   have h3:¬ (l.length:Int)<1:=by omega
   have h4:¬ (4:Int)<(l.length:Int):=by omega
   generalize isD l=x at *;generalize okR l=y at *;generalize l.length=n at *
   cases x
   .go_enter func177,ntmps177
    go_wp2_with fail;refine D.mono ?_;rintro e w1 ⟨rfl,b1⟩;clear D;go_wp2;go_ret;exact⟨rfl,b1⟩
   .go_enter func177,ntmps177
    go_wp2_with fail;refine D.mono ?_;rintro e w1 ⟨rfl,b1⟩;clear D;go_wp2;go_ret;exact⟨rfl,b1⟩
  .rw[F9 (fun h=>h2 h.2)]
   have h3:¬ (l.length:Int)<1:=by omega
   have h4:(4:Int)<(l.length:Int):=by omega
   clear D;go_enter func177,ntmps177;go_wp2;go_ret;exact⟨rfl,bX⟩
 .rw[F9 (fun h=>h1 h.1)]
  have h3:(l.length:Int)<1:=by omega
  clear D;go_enter func177,ntmps177;go_wp2;go_ret;exact⟨rfl,bX⟩
theorem a04 {zs:List Int}(h:okR zs=true):okD zs=decide ((nD zs).length≤200):=by
 unfold okD;rw[h,Bool.true_and,zw]
theorem Zj {w:World} {B:Nat} {v:Value} {zs:List Int}(_hz:zs.length≤1048576) (hI:ab w B v zs) (hm:db w 7 ij) (hc:db w 10 yw) (ho:db w 11 xq) :
  Calls prog 176 #[v] w fun e w'=>∃ v',e=.returned (.tuple #[v',.bool (okD zs)])∧ab w' w.heap.size v' (Tr zs)∧Below w.heap.size w w':=by
 have F:=K3 hI hm hc ho;have a0:=K0 zs;unfold Tr;clear hI hm hc ho
 cases hok:okR zs
 .rw[hok]at F
  rw[av4 hok,if_neg (by simp)];clear hok a0;go_enter func176,ntmps176;go_wp2_with fail;refine F.mono ?_;rintro e w1 ⟨v1,rfl,h1,h2⟩;clear F;go_wp2;go_ret2;exact⟨_,rfl,⟨rfl,.inl ⟨rfl,rfl⟩⟩,h2⟩
 .rw[hok]at F
  unfold Dt at F a0;rw[a04 hok];rw[hok,if_pos rfl]at F a0;clear hok;generalize nD zs=ds at *;by_cases hl:ds.length≤200
  .have a1:¬ (200:Int)<(ds.length:Int):=by omega
   rw[decide_eq_true hl,if_pos rfl];go_enter func176,ntmps176;go_wp2_with fail;refine F.mono ?_;rintro e w1 ⟨v1,rfl,h1,h2⟩;clear F;rcases h1.form with ⟨rfl,rfl⟩|⟨g,cap,rfl,_,_⟩
   .go_wp2
    go_ret2;exact⟨_,rfl,h1,h2⟩
   .go_wp2
    go_ret2;exact⟨_,rfl,h1,h2⟩
  .have a1:(200:Int)<(ds.length:Int):=by omega
   rw[decide_eq_false hl,if_neg (by simp)];go_enter func176,ntmps176;go_wp2_with fail;refine F.mono ?_;rintro e w1 ⟨v1,rfl,h1,h2⟩;clear F;rcases h1.form with ⟨rfl,rfl⟩|⟨g,cap,rfl,_,_⟩
   .exact absurd (by simp) hl
   .go_wp2
    go_ret2;exact⟨_,rfl,⟨rfl,.inl ⟨rfl,rfl⟩⟩,h2⟩
theorem ap0 {x:ByteArray}(h:x.size≤200):okR (Dec.decT x.size x).1=true:=decide_eq_true ⟨Nat.le_trans (Dec.decT_len x.size x bR).1 h,Fj x.size x⟩
def aR (x:ByteArray):List Int:=if ok4 x=true then rn4 x else []
theorem Xr (x:ByteArray):(aR x).length≤200:=by
 unfold aR;split
 .rename_i h
  exact (of_decide_eq_true h).2
 .simp
theorem Gl (x:ByteArray) (hx:x.size≤1048576) (u:World) (ht:dr u) :
  Calls prog 152 #[.string x] u fun e u'=>∃ v,e=.returned (.tuple #[v,.bool (ok4 x)])∧ab u' u.heap.size v (aR x)∧Below u.heap.size u u':=by
 by_cases h:x.size≤200
 .have D:=fun w=>Iv x w h
  have a2:=ap0 h;have a3:=(Dec.decT_len x.size x bR).1;have N:=fun (u':World) (v:Value) (hb:Below u.heap.size u u') (hI:ab u' u.heap.size v (Dec.decT x.size x).1)=>Zj (by omega) hI (ht.below hb).1 (ht.below hb).2.1 (ht.below hb).2.2
  have a0:okD (Dec.decT x.size x).1=ok4 x:=by
   rw[a04 a2];unfold ok4 rn4;rw[decide_eq_decide];omega
  have a1:Tr (Dec.decT x.size x).1=aR x:=by
   unfold Tr aR;rw[a0];rfl
  rw[a0,a1]at N;generalize (Dec.decT x.size x).1=ds at *;generalize ok4 x=ok at *;generalize aR x=l at *;clear a2 ht a0 a1;go_enter func152,ntmps152;go_wp2_with fail;refine (D _).mono ?_;rintro e w1 ⟨v1,rfl,i1,b1⟩;clear D;have N1:=N _ _ b1 i1;clear N i1;go_wp2_with fail;refine N1.mono ?_;rintro e w2 ⟨v2,rfl,i2,b2⟩;clear N1;go_wp2;go_ret2;exact⟨_,rfl,fe i2 b1.size,b1.trans (b2.mono b1.size)⟩
 .have D:=fun w=>L6 x w (by omega) hx
  have h1:ok4 x=false:=decide_eq_false fun c=>h c.1
  have h2:aR x=[]:=by unfold aR;rw[h1];rfl
  rw[h1,h2];clear h1 h2 ht;go_enter func152,ntmps152;go_wp2_with fail;refine (D _).mono ?_;rintro e w1 ⟨rfl,rfl⟩;clear D;go_wp2;go_ret2;exact⟨_,rfl,⟨rfl,.inl ⟨rfl,rfl⟩⟩,bX⟩
end Go.Proofs.YtjbmgghehdemdaaGreatDoor
