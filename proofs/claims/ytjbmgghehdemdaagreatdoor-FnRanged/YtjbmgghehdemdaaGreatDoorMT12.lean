/- IShift -/
import Derived.Test.YtjbmgghehdemdaaGreatDoorMT7
import Derived.Deep.RegionHeld3
import Derived.Deep.Cut
import Derived.Deep.CutRange
namespace Go.Proofs.YtjbmgghehdemdaaGreatDoor
set_option maxRecDepth 100000
set_option maxHeartbeats 16000000
open _root_.Go.Proofs.Tryz
open Go.RowKit
def shE (e:El) (b:Bool):Int × El:=if e.varies=true then (e.first,elZ) else if b=true∨(e.first=0∧e.second=0∧e.third=0) then (0,elZ) else (65535,e)
def sd (b:Bool) (e:El):Bool:=e.varies || (b && e.first == 0)
theorem Qq (b:Bool) (e:El):ja true b e=((shE e (sd b e)).1,(shE e (sd b e)).2,sd b e):=by
 obtain⟨x,y,z,v⟩:=e;unfold ja shE sd elZ
 cases v <;> cases b <;> by_cases hx:x=0 <;> by_cases hy:y=0 <;> by_cases hz:z=0 <;> simp[hx,hy,hz]
theorem Bz (w:World) (o o':Obj):Below w.heap.size w ((w.alloc o).alloc o'):=((Below.refl w.heap.size w).alloc bR o).alloc (by simp) o'
theorem zx {p:Int × El} {n:Int} {a b c:Int} {d:Bool}(h:p=(n,⟨a,b,c,d⟩)):Ending.returned (.tuple #[.int .i64 n,.agg #[.int .i64 a,.int .i64 b,.int .i64 c,.bool d]])=.returned (.tuple #[.int .i64 p.1,.agg #[.int .i64 p.2.first,.int .i64 p.2.second,.int .i64 p.2.third,.bool p.2.varies]]):=by rw[h]
theorem a41 (e:El) (b:Bool) (w:World) :
  Calls prog 155 #[.agg #[.int .i64 e.first,.int .i64 e.second,.int .i64 e.third,.bool e.varies],.bool b] w fun x w'=>x=.returned (.tuple #[.int .i64 (shE e b).1,.agg #[.int .i64 (shE e b).2.first,.int .i64 (shE e b).2.second,.int .i64 (shE e b).2.third,.bool (shE e b).2.varies]])∧Below w.heap.size w w':=by
 obtain⟨x,y,z,v⟩:=e;have a0:=((Below.refl w.heap.size w).alloc bR (.cells #[.int .i64 x,.int .i64 y,.int .i64 z,.bool v] 111)).alloc (by simp) (.cells #[.int .i64 0,.int .i64 0,.int .i64 0,.bool false] 111)
 cases v
 .cases b
  .by_cases hz:x=0∧y=0∧z=0
   .obtain⟨rfl,rfl,rfl⟩:=hz
    have HO:Hid (shE ⟨0,0,0,false⟩ false=(0,⟨0,0,0,false⟩)):=by show _=_;unfold shE elZ;simp
    go_enter func155,ntmps155;go_wp2;refine bodyPost_ret (v:=.tuple #[.int .i64 0,.agg #[.int .i64 0,.int .i64 0,.int .i64 0,.bool false]]) ?_ rfl ⟨zx HO.out,a0⟩;rw[jx rfl];go_simp
   .by_cases hx:x=0
    .subst hx
     by_cases hy:y=0
     .subst hy
      have a1:¬ z=0:=fun c=>hz ⟨rfl,rfl,c⟩
      have HO:Hid (shE ⟨0,0,z,false⟩ false=(65535,⟨0,0,z,false⟩)):=by show _=_;unfold shE elZ;simp[a1]
      go_enter func155,ntmps155;go_wp2;go_region
      all_goals
       go_wp2;refine bodyPost_ret (v:=.tuple #[.int .i64 65535,.agg #[.int .i64 0,.int .i64 0,.int .i64 z,.bool false]]) ?_ rfl ⟨zx HO.out,(Bz w _ _).drew⟩;rw[jx rfl];go_simp
     .have HO:Hid (shE ⟨0,y,z,false⟩ false=(65535,⟨0,y,z,false⟩)):=by show _=_;unfold shE elZ;simp[hy]
      go_enter func155,ntmps155;go_wp2;go_region
      all_goals
       go_wp2;refine bodyPost_ret (v:=.tuple #[.int .i64 65535,.agg #[.int .i64 0,.int .i64 y,.int .i64 z,.bool false]]) ?_ rfl ⟨zx HO.out,(Bz w _ _).drew⟩;rw[jx rfl];go_simp
    .have HO:Hid (shE ⟨x,y,z,false⟩ false=(65535,⟨x,y,z,false⟩)):=by show _=_;unfold shE elZ;simp[hx]
     go_enter func155,ntmps155;go_wp2;go_region
     all_goals
      go_wp2;refine bodyPost_ret (v:=.tuple #[.int .i64 65535,.agg #[.int .i64 x,.int .i64 y,.int .i64 z,.bool false]]) ?_ rfl ⟨zx HO.out,(Bz w _ _).drew⟩;rw[jx rfl];go_simp
  .have HO:Hid (shE ⟨x,y,z,false⟩ true=(0,⟨0,0,0,false⟩)):=by show _=_;unfold shE elZ;simp
   go_enter func155,ntmps155;go_wp2;refine bodyPost_ret (v:=.tuple #[.int .i64 0,.agg #[.int .i64 0,.int .i64 0,.int .i64 0,.bool false]]) ?_ rfl ⟨zx HO.out,a0⟩;rw[jx rfl];go_simp
 .have HO:Hid (shE ⟨x,y,z,true⟩ b=(x,⟨0,0,0,false⟩)):=by show _=_;unfold shE elZ;simp
  go_enter func155,ntmps155;go_wp2;refine bodyPost_ret (v:=.tuple #[.int .i64 x,.agg #[.int .i64 0,.int .i64 0,.int .i64 0,.bool false]]) ?_ rfl ⟨zx HO.out,a0⟩;rw[jx rfl];go_simp
theorem Wy {w:World} {n:Nat} {x y z t:Value} {T:TypeId}(h:w.heap[n]? = some (.cells #[x,y,z,t] T)) (a b c d:Value) :
  ((((w.setCell ⟨n,0,none⟩ a).setCell ⟨n,1,none⟩ b).setCell ⟨n,2,none⟩ c).setCell ⟨n,3,none⟩ d).heap[n]? = some (.cells #[a,b,c,d] T)∧w.grownBy ((((w.setCell ⟨n,0,none⟩ a).setCell ⟨n,1,none⟩ b).setCell ⟨n,2,none⟩ c).setCell ⟨n,3,none⟩ d) (some n):=by
 have h1:=heap_setCell_same w n 0 _ _ a h;have h2:=heap_setCell_same _ n 1 _ _ b h1;have h3:=heap_setCell_same _ n 2 _ _ c h2;have h4:=heap_setCell_same _ n 3 _ _ d h3;refine⟨h4,rfl,rfl,rfl,by simp[World.setCell],fun k hk hne=>?_⟩;have a0:k≠n:=fun e=>hne (by rw[e])
 rw[heap_setCell_other _ _ k _ a0,heap_setCell_other _ _ k _ a0,heap_setCell_other _ _ k _ a0,heap_setCell_other _ _ k _ a0]
theorem Qt {w:World} {n:Nat} {cs:Array Value} {T:TypeId}(h:w.heap[n]? = some (.cells cs T)) (j:Nat):w.frozen? ⟨n,j,none⟩=false:=by simp[World.frozen?,h]
def aj4 (w:World) (sh:Bool) (es:List El) (v6 v7 bv iv:Value) (wr:World):Prop :=
 ∃ (k:Nat) (fs:List Int) (xs:List El) (b b':Bool),k≤es.length∧iv=.int .i64 k∧bv=.bool b∧fw sh es k=(fs,xs,b')∧(sh=true→b=b')∧ab wr w.heap.size v6 fs∧ah wr w.heap.size v7 xs∧Below w.heap.size w wr
theorem zn {w w':World}(hb:Below w.heap.size w w') (row:Option Nat):w.grownBy w' row:=⟨hb.os,hb.tape,hb.output,hb.size,fun k hk _=>hb.block k hk⟩
theorem Fq (w:World) (B g cap:Nat) (es:List El) (hz:es.length≤1000) (hL:ah w B (.slice (some ⟨g,0,none⟩) es.length cap) es) :
  Calls prog 137 #[.slice (some ⟨g,0,none⟩) es.length cap,.bool false] w fun e w'=>∃ v v',e=.returned (.tuple #[v,v',.bool true])∧ab w' w.heap.size v (dc false es)∧ah w' w.heap.size v' (ck false es)∧Below w.heap.size w w':=by
 obtain⟨i0,hi0,aT,aN,aR⟩:=info_parts dv;obtain⟨i1,hi1,aU,aO,aS⟩:=info_parts ye;have aZ:¬ (1000:Int)<(es.length:Int):=by omega
 go_enter func137,ntmps137;go_wp2;go_loopw [7,8,9,18] (fun v6 v7 bv iv wr=>aj4 w false es v6 v7 bv iv wr) (fun _ _ _ iv _=>es.length-(intOf iv).toNat)
 case atStart=>exact⟨0,[],[],false,false,Nat.zero_le _,rfl,rfl,rfl,fun _=>rfl,World.ownsRow_nil _ _ _ _,World.ownsRow_nil _ _ _ _,bX⟩
 case round =>
  obtain⟨k,fs,xs,b,b',hk,rfl,rfl,hf,aA,hI,hE,a5⟩:=hrel;have ai:=Cb false es k;rw[hf]at ai;have aK:fs.length≤k:=ai.1;have aL:xs.length≤k:=ai.2;have HF:Hid (fw false es k=(fs,xs,b')):=hf;clear hf ai;by_cases aB:k<es.length
  .obtain⟨e,he⟩:∃ e,es[k]? = some e:=⟨_,List.getElem?_eq_getElem aB⟩
   have an:=Al he HF.out;obtain⟨a0,a1,a2,a3⟩:=(hL.below a5).cells k e he;have aW:(k:Int)<(es.length:Int):=by omega
   have aX:=a5.size;obtain⟨x,y,z,v⟩:=e;simp only at a0 a1 a2 a3;clear he HF hL;rw[Em]at an;have av:Hid _:=an;clear an aA;have HI:Hid (ab _ _ _ _):=hI;have HE:Hid (ah _ _ _ _):=hE;have ar:Hid _:=a5;have az:Below w.heap.size w (wr.alloc (.cells #[.int .i64 x,.int .i64 y,.int .i64 z,.bool v] 111)):=a5.alloc a5.size _;have ak:Hid _:=az;have ae:(wr.alloc (.cells #[.int .i64 x,.int .i64 y,.int .i64 z,.bool v] 111)).heap[wr.heap.size]? = some (.cells #[.int .i64 x,.int .i64 y,.int .i64 z,.bool v] 111):=heap_alloc_new wr _;have a7:Hid _:=ae;clear ae hI hE a5 az;go_upto_region 9 with fail
   go_cut [9] from 22 to 31 (fun bv wx=>bv=.bool (sd b ⟨x,y,z,v⟩)∧wx=wr.alloc (.cells #[.int .i64 x,.int .i64 y,.int .i64 z,.bool v] 111))
   case first =>
    clear av HI HE ar a7 ak a0 a1 a2 a3
    cases v
    .cases b
     .go_wp2
      go_meet
      case rel=>exact⟨rfl,rfl⟩
     .by_cases hx:x=0
      .subst hx
       go_wp2;go_meet
       case rel=>exact⟨rfl,rfl⟩
      .have aY:(x == 0)=false:=by simpa using hx
       have aJ:Hid (sd true ⟨x,y,z,false⟩=false):=by show _=_;unfold sd;simp[hx]
       go_wp2;go_meet
       case rel=>exact⟨by rw[aJ.out],rfl⟩
    .go_wp2
     go_meet
     case rel=>exact⟨by cases b <;> rfl,rfl⟩
   case rest =>
    obtain⟨rfl,rfl⟩:=hcut;clear a0 a1 a2 a3;generalize sd b ⟨x,y,z,v⟩=bb at *;have ag:(wr.alloc (.cells #[.int .i64 x,.int .i64 y,.int .i64 z,.bool v] 111)).ownsRow w.heap.size 3 1 u7 fs.length (fs.map (Value.int .i64)):=World.ownsRow.alloc HI.out _;have am:(wr.alloc (.cells #[.int .i64 x,.int .i64 y,.int .i64 z,.bool v] 111)).ownsRow w.heap.size 111 4 u8 xs.length (kt xs):=World.ownsRow.alloc HE.out _;have ao:=ak.out;have a4:=a7.out;have aq:wr.heap.size<(wr.alloc (.cells #[.int .i64 x,.int .i64 y,.int .i64 z,.bool v] 111)).heap.size:=by simp
    have a6:∀ j,u7.ownBlock=some j→j<wr.heap.size:=fun j hj=>(World.ownsRow.lt HI.out j hj).2
    have au:Hid (_=_):=a4;have aa:Hid _:=ao;have aQ:=ao.size;clear a4 ao;unfold ab at *;unfold ah at *;go_wp2_with (at_builtin;refine wpList_append_own _ rfl _ _ 39 rfl w.heap.size 3 i0 (.int .i64 0) 1 8 underlying39 hi0 aT aN aR rfl (by decide) _ _ _ rfl (ag.alloc _) ⟨wr.heap.size+1,0,none⟩ 1 1 [.int .i64 65535] rfl rfl (ic _ _ _ _ (by simp)) (fun u hu=>by simp at hu;subst hu;rfl) (by unfold maxLen;omega) (by omega) (by simp;omega) ?_)
    intro aE w4 aC aj _;have ax:ab w4 w.heap.size aE (fs++[65535]):=ab.snoc aC;have ac:ah w4 w.heap.size u8 xs:=World.ownsRow.kept (am.alloc _) aj (dg am ag (by decide));have ad:w4.heap[wr.heap.size]? = some (.cells #[.int .i64 x,.int .i64 y,.int .i64 z,.bool v] 111):=by
     rw[aj.block wr.heap.size (by simp;omega) (fun c=>by have:=a6 wr.heap.size c.symm;omega),Below.heap_alloc _ _ _ aq];exact au.out
    have a8:Below w.heap.size w w4:=Below.grown (aa.out.alloc aa.out.size _) aj (aa.out.alloc aa.out.size _).size (fun j hj=>(World.ownsRow.lt ag j hj).1);have e0:=cell_of_row _ _ 0 _ _ _ ad;have e1:=cell_of_row _ _ 1 _ _ _ ad;have e2:=cell_of_row _ _ 2 _ _ _ ad;have e3:=cell_of_row _ _ 3 _ _ _ ad;have aP:=a8.size;have al:Hid (ab _ _ _ _):=ax;have a9:Hid _:=a8;clear aC aj ad a7 au a6 ag am ax a8 HI HE ar ak aa;unfold ah at ac;go_wp2_with (at_builtin;refine wpList_append_own _ rfl _ _ 166 rfl w.heap.size 111 i1 _ 4 32 underlying166 hi1 aU aO aS rfl (by decide) _ _ _ rfl (ac.alloc _) ⟨w4.heap.size,0,none⟩ 1 1 (elC (⟨x,y,z,v⟩:El)) rfl rfl (mh _ _ (⟨x,y,z,v⟩:El) _ (by simp)) ?hone (by unfold maxLen;omega) (by omega) (by simp;omega) ?_)
    case hone =>
     intro u hu;simp[elC]at hu
     rcases hu with rfl|rfl|rfl|rfl <;> rfl
    intro aV w5 aD ap _;have aw:ah w5 w.heap.size aV (xs++[(⟨x,y,z,v⟩:El)]):=ah.snoc aD;have ay:ab w5 w.heap.size aE (fs++[65535]):=World.ownsRow.kept (World.ownsRow.alloc al.out _) ap (dg al.out ac (by decide));have af:Below w.heap.size w w5:=Below.grown (a9.out.alloc a9.out.size _) ap (a9.out.alloc a9.out.size _).size (fun j hj=>(World.ownsRow.lt ac j hj).1);have aG:Hid (ah _ _ _ _):=aw;have aI:Hid (ab _ _ _ _):=ay;have aF:Hid _:=af;clear aD ap aw ay af al a9 e0 e1 e2 e3 ac;go_wp2;exact⟨⟨k+1,_,_,_,_,aB,by go_num,rfl,av.out,(fun c=>by cases c),aI.out,aG.out,aF.out⟩,by simp[intOf];omega⟩
  .have aM:k=es.length:=by omega
   subst aM;have aH:Hid (fs=dc false es∧xs=ck false es):=by
    show _∧_
    unfold dc ck;rw[HF.out];exact⟨rfl,rfl⟩
   have HI:Hid (ab _ _ _ _):=hI;have HE:Hid (ah _ _ _ _):=hE;have HB:Hid _:=a5;clear hI hE a5 HF hL aA;go_wp2;go_ret3
   obtain⟨rfl,rfl⟩:=aH.out;exact⟨_,_,rfl,HI.out,HE.out,HB.out⟩
theorem Fr (w:World) (B g cap:Nat) (es:List El) (hz:es.length≤1000) (hL:ah w B (.slice (some ⟨g,0,none⟩) es.length cap) es) :
  Calls prog 137 #[.slice (some ⟨g,0,none⟩) es.length cap,.bool true] w fun e w'=>∃ v v',e=.returned (.tuple #[v,v',.bool true])∧ab w' w.heap.size v (dc true es)∧ah w' w.heap.size v' (ck true es)∧Below w.heap.size w w':=by
 obtain⟨i0,hi0,b0,aU,aY⟩:=info_parts dv;obtain⟨i1,hi1,b1,aV,aZ⟩:=info_parts ye;have b7:¬ (1000:Int)<(es.length:Int):=by omega
 go_enter func137,ntmps137;go_wp2;go_loopw [7,8,9,18] (fun v6 v7 bv iv wr=>aj4 w true es v6 v7 bv iv wr) (fun _ _ _ iv _=>es.length-(intOf iv).toNat)
 case atStart=>exact⟨0,[],[],false,false,Nat.zero_le _,rfl,rfl,rfl,fun _=>rfl,World.ownsRow_nil _ _ _ _,World.ownsRow_nil _ _ _ _,bX⟩
 case round =>
  obtain⟨k,fs,xs,b,b',hk,rfl,rfl,hf,au,hI,hE,a7⟩:=hrel;have an:=Cb true es k;rw[hf]at an;have aQ:fs.length≤k:=an.1;have aR:xs.length≤k:=an.2;have HF:Hid (fw true es k=(fs,xs,b')):=hf;clear hf an;by_cases aH:k<es.length
  .obtain⟨e,he⟩:∃ e,es[k]? = some e:=⟨_,List.getElem?_eq_getElem aH⟩
   have ar:=Al he HF.out;obtain⟨a0,a1,a2,a3⟩:=(hL.below a7).cells k e he;have b4:(k:Int)<(es.length:Int):=by omega
   have b5:=a7.size;obtain⟨x,y,z,v⟩:=e;simp only at a0 a1 a2 a3;clear he HF hL;rw[<- au rfl,Qq]at ar;have al:Hid _:=ar;clear ar au;have HI:Hid (ab _ _ _ _):=hI;have HE:Hid (ah _ _ _ _):=hE;have aa:Hid _:=a7;have aG:Below w.heap.size w (wr.alloc (.cells #[.int .i64 x,.int .i64 y,.int .i64 z,.bool v] 111)):=a7.alloc a7.size _;have ak:Hid _:=aG;have ag:(wr.alloc (.cells #[.int .i64 x,.int .i64 y,.int .i64 z,.bool v] 111)).heap[wr.heap.size]? = some (.cells #[.int .i64 x,.int .i64 y,.int .i64 z,.bool v] 111):=heap_alloc_new wr _;have a8:Hid _:=ag;clear ag hI hE a7 aG;go_upto_region 9 with fail
   go_cut [9] from 22 to 31 (fun bv wx=>bv=.bool (sd b ⟨x,y,z,v⟩)∧wx=wr.alloc (.cells #[.int .i64 x,.int .i64 y,.int .i64 z,.bool v] 111))
   case first =>
    clear al HI HE aa a8 ak a0 a1 a2 a3
    cases v
    .cases b
     .go_wp2
      go_meet
      case rel=>exact⟨rfl,rfl⟩
     .by_cases hx:x=0
      .subst hx
       go_wp2;go_meet
       case rel=>exact⟨rfl,rfl⟩
      .have b6:(x == 0)=false:=by simpa using hx
       have aP:Hid (sd true ⟨x,y,z,false⟩=false):=by show _=_;unfold sd;simp[hx]
       go_wp2;go_meet
       case rel=>exact⟨by rw[aP.out],rfl⟩
    .go_wp2
     go_meet
     case rel=>exact⟨by cases b <;> rfl,rfl⟩
   case rest =>
    obtain⟨rfl,rfl⟩:=hcut;clear a0 a1 a2 a3;have SH:=fun u=>a41 ⟨x,y,z,v⟩ (sd b ⟨x,y,z,v⟩) u
    obtain⟨bb,az⟩:∃ bb,Hid (sd b ⟨x,y,z,v⟩=bb):=⟨_,rfl⟩
    rw[az.out]at SH al;rw[az.out];obtain⟨n4,x',y',z',v',HP⟩:∃ n4 x' y' z' v',Hid (shE ⟨x,y,z,v⟩ bb=((n4:Int),(⟨x',y',z',v'⟩:El))):=⟨_,_,_,_,_,rfl⟩
    rw[HP.out]at SH al;simp only at SH;go_wp2_with fail;refine (SH _).mono ?_;rintro e w2 ⟨rfl,b2⟩;clear SH;have a6:w2.heap[wr.heap.size]? = some (.cells #[.int .i64 x,.int .i64 y,.int .i64 z,.bool v] 111):=(b2.block wr.heap.size (by simp)).trans a8.out;have aT:wr.heap.size<w2.heap.size:=(Array.getElem?_eq_some_iff.1 a6).1;have d0:=cell_of_row _ _ 0 _ _ _ a6;have d1:=cell_of_row _ _ 1 _ _ _ a6;have d2:=cell_of_row _ _ 2 _ _ _ a6;have d3:=cell_of_row _ _ 3 _ _ _ a6;have f0:=Qt a6;obtain⟨a4,ax⟩:=Wy a6 (.int .i64 x') (.int .i64 y') (.int .i64 z') (.bool v');have aD:=World.ownsRow.kept (World.ownsRow.alloc HI.out (.cells #[.int .i64 x,.int .i64 y,.int .i64 z,.bool v] 111)) (row:=none) (zn b2 none) (by cases h:u7.ownBlock <;> simp)
    have aB:=World.ownsRow.kept (World.ownsRow.alloc HE.out (.cells #[.int .i64 x,.int .i64 y,.int .i64 z,.bool v] 111)) (row:=none) (zn b2 none) (by cases h:u8.ownBlock <;> simp);have a5:∀ j,u7.ownBlock=some j→j<wr.heap.size:=fun j hj=>(World.ownsRow.lt HI.out j hj).2
    have aj:∀ j,u8.ownBlock=some j→j<wr.heap.size:=fun j hj=>(World.ownsRow.lt HE.out j hj).2
    have am:=World.ownsRow.kept aD ax (by
     cases h:u7.ownBlock with
     | none=>exact .inl rfl
     | some j=>exact .inr fun c=>by have:=a5 j h;have:=Option.some.inj c;omega)
    have aq:=World.ownsRow.kept aB ax (by
     cases h:u8.ownBlock with
     | none=>exact .inl rfl
     | some j=>exact .inr fun c=>by have:=aj j h;have:=Option.some.inj c;omega)
    have av:Below w.heap.size w ((((w2.setCell ⟨wr.heap.size,0,none⟩ (.int .i64 x')).setCell ⟨wr.heap.size,1,none⟩ (.int .i64 y')).setCell ⟨wr.heap.size,2,none⟩ (.int .i64 z')).setCell ⟨wr.heap.size,3,none⟩ (.bool v')):=((((ak.out.trans (b2.mono ak.out.size)).setCell aa.out.size _).setCell aa.out.size _).setCell aa.out.size _).setCell aa.out.size _;have ay:wr.heap.size<((((w2.setCell ⟨wr.heap.size,0,none⟩ (.int .i64 x')).setCell ⟨wr.heap.size,1,none⟩ (.int .i64 y')).setCell ⟨wr.heap.size,2,none⟩ (.int .i64 z')).setCell ⟨wr.heap.size,3,none⟩ (.bool v')).heap.size:=(Array.getElem?_eq_some_iff.1 a4).1;clear b2 a6 aD aB ax;have aA:Hid (_=_):=a4;have ad:Hid _:=av;have aX:=av.size;clear a4 av;unfold ab at *;unfold ah at *
    go_wp2_with (at_builtin;refine wpList_append_own _ rfl _ _ 39 rfl w.heap.size 3 i0 (.int .i64 0) 1 8 underlying39 hi0 b0 aU aY rfl (by decide) _ _ _ rfl (am.alloc _) ⟨w2.heap.size,0,none⟩ 1 1 [.int .i64 n4] rfl rfl (ic _ _ _ _ (by simp)) (fun u hu=>by simp at hu;subst hu;rfl) (by unfold maxLen;omega) (by omega) (by simp;omega) ?_)
    intro aK w4 aI ao _;have aE:ab w4 w.heap.size aK (fs++[n4]):=ab.snoc aI;have ae:ah w4 w.heap.size u8 xs:=World.ownsRow.kept (aq.alloc _) ao (dg aq am (by decide));have af:w4.heap[wr.heap.size]? = some (.cells #[.int .i64 x',.int .i64 y',.int .i64 z',.bool v'] 111):=by
     rw[ao.block wr.heap.size (by simp;omega) (fun c=>by have:=a5 wr.heap.size c.symm;omega),Below.heap_alloc _ _ _ ay];exact aA.out
    have a9:Below w.heap.size w w4:=Below.grown (ad.out.alloc ad.out.size _) ao (ad.out.alloc ad.out.size _).size (fun j hj=>(World.ownsRow.lt am j hj).1);have e0:=cell_of_row _ _ 0 _ _ _ af;have e1:=cell_of_row _ _ 1 _ _ _ af;have e2:=cell_of_row _ _ 2 _ _ _ af;have e3:=cell_of_row _ _ 3 _ _ _ af;have aW:=a9.size;have ap:Hid (ab _ _ _ _):=aE;have ac:Hid _:=a9;clear aI ao af a8 aA a5 am aq aE a9 HI HE aa ak ad;unfold ah at ae;go_wp2_with (at_builtin;refine wpList_append_own _ rfl _ _ 166 rfl w.heap.size 111 i1 _ 4 32 underlying166 hi1 b1 aV aZ rfl (by decide) _ _ _ rfl (ae.alloc _) ⟨w4.heap.size,0,none⟩ 1 1 (elC (⟨x',y',z',v'⟩:El)) rfl rfl (mh _ _ (⟨x',y',z',v'⟩:El) _ (by simp)) ?hone (by unfold maxLen;omega) (by omega) (by simp;omega) ?_)
    case hone =>
     intro u hu;simp[elC]at hu
     rcases hu with rfl|rfl|rfl|rfl <;> rfl
    intro b3 w5 aJ aw _;have aC:ah w5 w.heap.size b3 (xs++[(⟨x',y',z',v'⟩:El)]):=ah.snoc aJ;have aF:ab w5 w.heap.size aK (fs++[n4]):=World.ownsRow.kept (World.ownsRow.alloc ap.out _) aw (dg ap.out ae (by decide));have ai:Below w.heap.size w w5:=Below.grown (ac.out.alloc ac.out.size _) aw (ac.out.alloc ac.out.size _).size (fun j hj=>(World.ownsRow.lt ae j hj).1);have aM:Hid (ah _ _ _ _):=aC;have aO:Hid (ab _ _ _ _):=aF;have aL:Hid _:=ai;clear aJ aw aC aF ai ap ac e0 e1 e2 e3 ae;go_wp2;exact⟨⟨k+1,_,_,_,_,aH,by go_num,rfl,al.out,(fun _=>rfl),aO.out,aM.out,aL.out⟩,by simp[intOf];omega⟩
  .have aS:k=es.length:=by omega
   subst aS;have aN:Hid (fs=dc true es∧xs=ck true es):=by
    show _∧_
    unfold dc ck;rw[HF.out];exact⟨rfl,rfl⟩
   have HI:Hid (ab _ _ _ _):=hI;have HE:Hid (ah _ _ _ _):=hE;have HB:Hid _:=a7;clear hI hE a7 HF hL au;go_wp2;go_ret3
   obtain⟨rfl,rfl⟩:=aN.out;exact⟨_,_,rfl,HI.out,HE.out,HB.out⟩
theorem Ix (w:World) (sh:Bool):Calls prog 137 #[.slice none 0 0,.bool sh] w fun e w'=>∃ v v',e=.returned (.tuple #[v,v',.bool true])∧ab w' w.heap.size v []∧ah w' w.heap.size v' []∧Below w.heap.size w w':=by
 go_enter func137,ntmps137;go_wp2;go_loopw [7,8,9,18] (fun v6 v7 bv iv wr=>v6=.slice none 0 0∧v7=.slice none 0 0∧bv=.bool false∧iv=.int .i64 0∧wr=w) (fun _ _ _ _ _=>0)
 case atStart=>exact⟨rfl,rfl,rfl,rfl,rfl⟩
 case round =>
  obtain⟨rfl,rfl,rfl,rfl,rfl⟩:=hrel;go_wp2;go_ret3
  exact⟨_,_,rfl,World.ownsRow_nil _ _ _ _,World.ownsRow_nil _ _ _ _,bX⟩
theorem L7 {w:World} {B:Nat} {v:Value} {es:List El}(sh:Bool) (hz:es.length≤1000) (hL:ah w B v es) :
  Calls prog 137 #[v,.bool sh] w fun e w'=>∃ v v',e=.returned (.tuple #[v,v',.bool true])∧ab w' w.heap.size v (dc sh es)∧ah w' w.heap.size v' (ck sh es)∧Below w.heap.size w w':=by
 rcases hL.form with ⟨rfl,rfl⟩|⟨g,cap,rfl,_,_⟩
 .exact Ix w sh
 .cases sh
  .exact Fq w B g cap es hz hL
  .exact Fr w B g cap es hz hL
theorem Iv (s:ByteArray) (w:World) (hs:s.size≤200) :
  Calls prog 175 #[.string s] w fun e w'=>∃ v,e=.returned (.tuple #[v,.bool true])∧ab w' w.heap.size v (Dec.decT s.size s).1∧Below w.heap.size w w':=by
 have D:=fun w=>Ol s w (by omega)
 go_enter func175,ntmps175;go_wp2_with (go_at_call 196;refine (D _).mono ?_;rintro e w' ⟨v,rfl,hI,hb⟩)
 go_ret2;exact⟨_,rfl,hI,hb⟩
theorem L6 (s:ByteArray) (w:World) (hs:200<s.size) (hm:s.size≤1048576) :
  Calls prog 175 #[.string s] w fun e w'=>e=.returned (.tuple #[.slice none 0 0,.bool false])∧w'=w:=by
 go_enter func175,ntmps175;go_wp2;go_ret2;exact⟨rfl,rfl⟩
end Go.Proofs.YtjbmgghehdemdaaGreatDoor
