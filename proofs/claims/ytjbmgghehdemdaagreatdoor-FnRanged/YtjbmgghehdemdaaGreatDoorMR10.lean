/- IFourth -/
import Derived.Test.YtjbmgghehdemdaaGreatDoorMR8
import Derived.Deep.Cut
import Derived.Deep.CutRange
namespace Go.Proofs.YtjbmgghehdemdaaGreatDoor
set_option maxRecDepth 100000
set_option maxHeartbeats 16000000
open _root_.Go.Proofs.Tryz
open Go.RowKit
theorem Wz {w:World} {n:Nat} {x y z t:Value} {T:TypeId}(h:w.heap[n]? = some (.cells #[x,y,z,t] T)) (a b c d:Value) :
  ((((w.setCell ⟨n,0,none⟩ a).setCell ⟨n,1,none⟩ b).setCell ⟨n,2,none⟩ c).setCell ⟨n,3,none⟩ d).heap[n]? = some (.cells #[a,b,c,d] T)/\w.grownBy ((((w.setCell ⟨n,0,none⟩ a).setCell ⟨n,1,none⟩ b).setCell ⟨n,2,none⟩ c).setCell ⟨n,3,none⟩ d) (some n):=by
 have g:=heap_setCell_same w n 0 _ _ a h;have i:=heap_setCell_same _ n 1 _ _ b g;have j:=heap_setCell_same _ n 2 _ _ c i;have l:=heap_setCell_same _ n 3 _ _ d j;refine⟨l,rfl,rfl,rfl,by simp[World.setCell],fun k hk hne=>?_⟩;have f:k≠n:=fun e=>hne (by rw[e])
 rw[heap_setCell_other _ _ k _ f,heap_setCell_other _ _ k _ f,heap_setCell_other _ _ k _ f,heap_setCell_other _ _ k _ f]
theorem Qt {w:World} {n:Nat} {cs:Array Value} {T:TypeId}(h:w.heap[n]? = some (.cells cs T)) (j:Nat):w.frozen? ⟨n,j,none⟩=false:=by simp[World.frozen?,h]
def aj5 (w:World) (sh:Bool) (es:List El) (v6 v7 bv iv:Value) (wr:World):Prop :=
 ∃ (k:Nat) (fs:List Int) (xs:List El) (b b':Bool),k<=es.length/\iv=.int .i64 k/\bv=.bool b/\fw sh es k=(fs,xs,b')/\(sh=true->b=b')/\ab wr w.heap.size v6 fs/\ah wr w.heap.size v7 xs/\Below w.heap.size w wr
theorem zn {w w':World}(a:Below w.heap.size w w') (row:Option Nat):w.grownBy w' row:=⟨a.os,a.tape,a.output,a.size,fun k hk _=>a.block k hk⟩
theorem Fq (w:World) (B g cap:Nat) (es:List El) (hz:es.length<=1000) (O:ah w B (.slice (some ⟨g,0,none⟩) es.length cap) es) :
  Calls prog 137 #[.slice (some ⟨g,0,none⟩) es.length cap,.bool false] w fun e w'=>∃ v v',e=.returned (.tuple #[v,v',.bool true])/\ab w' w.heap.size v (dc false es)/\ah w' w.heap.size v' (ck false es)/\Below w.heap.size w w':=by
 obtain⟨i0,hi0,av,an,ar⟩:=info_parts dv;obtain⟨i1,hi1,aw,ao,au⟩:=info_parts ye;have aB:¬ (1000:Int)<(es.length:Int):=by omega
 go_enter func137,ntmps137;go_wp2;go_loopw [7,8,9,18] (fun v6 v7 bv iv wr=>aj5 w false es v6 v7 bv iv wr) (fun _ _ _ iv _=>es.length-(intOf iv).toNat)
 case atStart=>exact⟨0,[],[],false,false,Nat.zero_le _,rfl,rfl,rfl,fun _=>rfl,World.ownsRow_nil _ _ _ _,World.ownsRow_nil _ _ _ _,bX⟩
 case round =>
  obtain⟨k,f,xs,b,b',hk,rfl,rfl,Q,Z,A,t,a⟩:=hrel;have q:=Cb false es k;rw[Q]at q;have ak:f.length<=k:=q.1;have al:xs.length<=k:=q.2;have s:=hZ Q;clear Q q;by_cases a9:k<es.length
  .obtain⟨e,P⟩:∃ e,es[k]? = some e:=⟨_,List.getElem?_eq_getElem a9⟩
   have G:=Al P s.out;obtain⟨K,L,M,N⟩:=(O.below a).cells k e P;have ay:(k:Int)<(es.length:Int):=by omega
   have az:=a.size;obtain⟨x,y,z,v⟩:=e;simp only at K L M N;clear P s O;rw[Em]at G;have U:Hid _:=G;clear G Z;have d:Hid (ab _ _ _ _):=A;have n:Hid (ah _ _ _ _):=t;have S:Hid _:=a;have Y:Below w.heap.size w (wr.alloc (.cells #[.int .i64 x,.int .i64 y,.int .i64 z,.bool v] 111)):=a.alloc a.size _;have C:Hid _:=Y;have a6:(wr.alloc (.cells #[.int .i64 x,.int .i64 y,.int .i64 z,.bool v] 111)).heap[wr.heap.size]? = some (.cells #[.int .i64 x,.int .i64 y,.int .i64 z,.bool v] 111):=heap_alloc_new wr _;have D:Hid _:=a6;clear a6 A t a Y;go_upto_region 9 with fail
   go_cut [9] from 22 to 31 (fun bv wx=>bv=.bool (sd b ⟨x,y,z,v⟩)/\wx=wr.alloc (.cells #[.int .i64 x,.int .i64 y,.int .i64 z,.bool v] 111))
   case first =>
    clear U d n S D C K L M N
    cases v
    .cases b
     .go_wp2
      go_meet
      case rel=>exact⟨rfl,rfl⟩
     .by_cases R:x=0
      .subst R
       go_wp2;go_meet
       case rel=>exact⟨rfl,rfl⟩
      .have aA:(x == 0)=false:=by simpa using R
       have aj:Hid (sd true ⟨x,y,z,false⟩=false):=by show _=_;unfold sd;simp[R]
       go_wp2;go_meet
       case rel=>exact⟨by rw[aj.out],rfl⟩
    .go_wp2
     go_meet
     case rel=>exact⟨by cases b <;> rfl,rfl⟩
   case rest =>
    obtain⟨rfl,rfl⟩:=hcut;clear K L M N;generalize sd b ⟨x,y,z,v⟩=bb at *;have p:(wr.alloc (.cells #[.int .i64 x,.int .i64 y,.int .i64 z,.bool v] 111)).ownsRow w.heap.size 3 1 u7 f.length (f.map (Value.int .i64)):=World.ownsRow.alloc d.out _;have F:(wr.alloc (.cells #[.int .i64 x,.int .i64 y,.int .i64 z,.bool v] 111)).ownsRow w.heap.size 111 4 u8 xs.length (kt xs):=World.ownsRow.alloc n.out _;have I:=C.out;have a4:=D.out;have a8:wr.heap.size<(wr.alloc (.cells #[.int .i64 x,.int .i64 y,.int .i64 z,.bool v] 111)).heap.size:=by simp
    have a5:∀ j,u7.ownBlock=some j->j<wr.heap.size:=fun j hj=>(World.ownsRow.lt d.out j hj).2
    have T:Hid (_=_):=a4;have i:Hid _:=I;have aq:=I.size;clear a4 I;unfold ab at *;unfold ah at *;go_wp2_with (at_builtin;refine wpList_append_own _ rfl _ _ 39 rfl w.heap.size 3 i0 (.int .i64 0) 1 8 underlying39 hi0 av an ar rfl (by decide) _ _ _ rfl (p.alloc _) ⟨wr.heap.size+1,0,none⟩ 1 1 [.int .i64 65535] rfl rfl (ic _ _ _ _ (by simp)) (fun u o=>by simp at o;subst o;rfl) (by unfold maxLen;omega) (by omega) (by simp;omega) ?_)
    intro ad w4 aa r _;have W:ab w4 w.heap.size ad (f++[65535]):=ab.snoc aa;have l:ah w4 w.heap.size u8 xs:=World.ownsRow.kept (F.alloc _) r (dg F p (by decide));have m:w4.heap[wr.heap.size]? = some (.cells #[.int .i64 x,.int .i64 y,.int .i64 z,.bool v] 111):=by
     rw[r.block wr.heap.size (by simp;omega) (fun c=>by have:=a5 wr.heap.size c.symm;omega),Below.heap_alloc _ _ _ a8];exact T.out
    have H:Below w.heap.size w w4:=Below.grown (i.out.alloc i.out.size _) r (i.out.alloc i.out.size _).size (fun j hj=>(World.ownsRow.lt p j hj).1);have e0:=cell_of_row _ _ 0 _ _ _ m;have e1:=cell_of_row _ _ 1 _ _ _ m;have e2:=cell_of_row _ _ 2 _ _ _ m;have e3:=cell_of_row _ _ 3 _ _ _ m;have ap:=H.size;have E:Hid (ab _ _ _ _):=W;have h:Hid _:=H;clear aa r m D T a5 p F W H d n S C i;unfold ah at l;go_wp2_with (at_builtin;refine wpList_append_own _ rfl _ _ 166 rfl w.heap.size 111 i1 _ 4 32 underlying166 hi1 aw ao au rfl (by decide) _ _ _ rfl (l.alloc _) ⟨w4.heap.size,0,none⟩ 1 1 (elC (⟨x,y,z,v⟩:El)) rfl rfl (mh _ _ (⟨x,y,z,v⟩:El) _ (by simp)) ?hone (by unfold maxLen;omega) (by omega) (by simp;omega) ?_)
    case hone =>
     intro u o;simp[elC]at o
     rcases o with rfl|rfl|rfl|rfl <;> rfl
    intro ax w5 ac J _;have V:ah w5 w.heap.size ax (xs++[(⟨x,y,z,v⟩:El)]):=ah.snoc ac;have X:ab w5 w.heap.size ad (f++[65535]):=World.ownsRow.kept (World.ownsRow.alloc E.out _) J (dg E.out l (by decide));have a7:Below w.heap.size w w5:=Below.grown (h.out.alloc h.out.size _) J (h.out.alloc h.out.size _).size (fun j hj=>(World.ownsRow.lt l j hj).1);have af:Hid (ah _ _ _ _):=V;have ai:Hid (ab _ _ _ _):=X;have ae:Hid _:=a7;clear ac J V X a7 E h e0 e1 e2 e3 l;go_wp2;exact⟨⟨k+1,_,_,_,_,a9,by go_num,rfl,U.out,(fun c=>by cases c),ai.out,af.out,ae.out⟩,by simp[intOf];omega⟩
  .have am:k=es.length:=by omega
   subst am;have ag:Hid (f=dc false es/\xs=ck false es):=by
    show _/\_
    unfold dc ck;rw[s.out];exact⟨rfl,rfl⟩
   have d:Hid (ab _ _ _ _):=A;have n:Hid (ah _ _ _ _):=t;have HB:Hid _:=a;clear A t a s O Z;go_wp2;go_ret3
   obtain⟨rfl,rfl⟩:=ag.out;exact⟨_,_,rfl,d.out,n.out,HB.out⟩
theorem Fr (w:World) (B g cap:Nat) (es:List El) (hz:es.length<=1000) (hL:ah w B (.slice (some ⟨g,0,none⟩) es.length cap) es) :
  Calls prog 137 #[.slice (some ⟨g,0,none⟩) es.length cap,.bool true] w fun e w'=>∃ v v',e=.returned (.tuple #[v,v',.bool true])/\ab w' w.heap.size v (dc true es)/\ah w' w.heap.size v' (ck true es)/\Below w.heap.size w w':=by
 obtain⟨i0,hi0,aD,ax,aB⟩:=info_parts dv;obtain⟨i1,hi1,aE,ay,aC⟩:=info_parts ye;have aJ:¬ (1000:Int)<(es.length:Int):=by omega
 go_enter func137,ntmps137;go_wp2;go_loopw [7,8,9,18] (fun v6 v7 bv iv wr=>aj5 w true es v6 v7 bv iv wr) (fun _ _ _ iv _=>es.length-(intOf iv).toNat)
 case atStart=>exact⟨0,[],[],false,false,Nat.zero_le _,rfl,rfl,rfl,fun _=>rfl,World.ownsRow_nil _ _ _ _,World.ownsRow_nil _ _ _ _,bX⟩
 case round =>
  obtain⟨k,K,xs,b,b',hk,rfl,rfl,hf,R,M,L,l⟩:=hrel;have H:=Cb true es k;rw[hf]at H;have ar:K.length<=k:=H.1;have au:xs.length<=k:=H.2;have J:=hZ hf;clear hf H;by_cases ai:k<es.length
  .obtain⟨e,he⟩:∃ e,es[k]? = some e:=⟨_,List.getElem?_eq_getElem ai⟩
   have Q:=Al he J.out;obtain⟨Y,Z,a2,a3⟩:=(hL.below l).cells k e he;have aG:(k:Int)<(es.length:Int):=by omega
   have aH:=l.size;obtain⟨x,y,z,v⟩:=e;simp only at Y Z a2 a3;clear he J hL;rw[<- R rfl,Qq]at Q;have F:Hid _:=Q;clear Q R;have o:Hid (ab _ _ _ _):=M;have n:Hid (ah _ _ _ _):=L;have m:Hid _:=l;have ag:Below w.heap.size w (wr.alloc (.cells #[.int .i64 x,.int .i64 y,.int .i64 z,.bool v] 111)):=l.alloc l.size _;have E:Hid _:=ag;have a4:(wr.alloc (.cells #[.int .i64 x,.int .i64 y,.int .i64 z,.bool v] 111)).heap[wr.heap.size]? = some (.cells #[.int .i64 x,.int .i64 y,.int .i64 z,.bool v] 111):=heap_alloc_new wr _;have N:Hid _:=a4;clear a4 M L l ag;go_upto_region 9 with fail
   go_cut [9] from 22 to 31 (fun bv wx=>bv=.bool (sd b ⟨x,y,z,v⟩)/\wx=wr.alloc (.cells #[.int .i64 x,.int .i64 y,.int .i64 z,.bool v] 111))
   case first =>
    clear F o n m N E Y Z a2 a3
    cases v
    .cases b
     .go_wp2
      go_meet
      case rel=>exact⟨rfl,rfl⟩
     .by_cases hx:x=0
      .subst hx
       go_wp2;go_meet
       case rel=>exact⟨rfl,rfl⟩
      .have aI:(x == 0)=false:=by simpa using hx
       have aq:Hid (sd true ⟨x,y,z,false⟩=false):=by show _=_;unfold sd;simp[hx]
       go_wp2;go_meet
       case rel=>exact⟨by rw[aq.out],rfl⟩
    .go_wp2
     go_meet
     case rel=>exact⟨by cases b <;> rfl,rfl⟩
   case rest =>
    obtain⟨rfl,rfl⟩:=hcut;clear Y Z a2 a3;have SH:=fun u=>a42 ⟨x,y,z,v⟩ (sd b ⟨x,y,z,v⟩) u
    obtain⟨bb,a8⟩:∃ bb,Hid (sd b ⟨x,y,z,v⟩=bb):=⟨_,rfl⟩
    rw[a8.out]at SH F;rw[a8.out];obtain⟨C,a,d,f,v',HP⟩:∃ C a d f v',Hid (shE ⟨x,y,z,v⟩ bb=((C:Int),(⟨a,d,f,v'⟩:El))):=⟨_,_,_,_,_,rfl⟩
    rw[HP.out]at SH F;simp only at SH;go_wp2_with fail;refine (SH _).mono ?_;rintro e D ⟨rfl,t⟩;clear SH;have i:D.heap[wr.heap.size]? = some (.cells #[.int .i64 x,.int .i64 y,.int .i64 z,.bool v] 111):=(t.block wr.heap.size (by simp)).trans N.out;have aw:wr.heap.size<D.heap.size:=(Array.getElem?_eq_some_iff.1 i).1;have d0:=cell_of_row _ _ 0 _ _ _ i;have d1:=cell_of_row _ _ 1 _ _ _ i;have d2:=cell_of_row _ _ 2 _ _ _ i;have d3:=cell_of_row _ _ 3 _ _ _ i;have f0:=Qt i;obtain⟨S,W⟩:=Wz i (.int .i64 a) (.int .i64 d) (.int .i64 f) (.bool v');have ad:=World.ownsRow.kept (World.ownsRow.alloc o.out (.cells #[.int .i64 x,.int .i64 y,.int .i64 z,.bool v] 111)) (row:=none) (zn t none) (by cases h:u7.ownBlock <;> simp)
    have aa:=World.ownsRow.kept (World.ownsRow.alloc n.out (.cells #[.int .i64 x,.int .i64 y,.int .i64 z,.bool v] 111)) (row:=none) (zn t none) (by cases h:u8.ownBlock <;> simp);have X:∀ j,u7.ownBlock=some j->j<wr.heap.size:=fun j hj=>(World.ownsRow.lt o.out j hj).2
    have a6:∀ j,u8.ownBlock=some j->j<wr.heap.size:=fun j hj=>(World.ownsRow.lt n.out j hj).2
    have G:=World.ownsRow.kept ad W (by
     cases h:u7.ownBlock with
     | none=>exact .inl rfl
     | some j=>exact .inr fun c=>by have:=X j h;have:=Option.some.inj c;omega)
    have P:=World.ownsRow.kept aa W (by
     cases h:u8.ownBlock with
     | none=>exact .inl rfl
     | some j=>exact .inr fun c=>by have:=a6 j h;have:=Option.some.inj c;omega)
    have U:Below w.heap.size w ((((D.setCell ⟨wr.heap.size,0,none⟩ (.int .i64 a)).setCell ⟨wr.heap.size,1,none⟩ (.int .i64 d)).setCell ⟨wr.heap.size,2,none⟩ (.int .i64 f)).setCell ⟨wr.heap.size,3,none⟩ (.bool v')):=((((E.out.trans (t.mono E.out.size)).setCell m.out.size _).setCell m.out.size _).setCell m.out.size _).setCell m.out.size _;have a7:wr.heap.size<((((D.setCell ⟨wr.heap.size,0,none⟩ (.int .i64 a)).setCell ⟨wr.heap.size,1,none⟩ (.int .i64 d)).setCell ⟨wr.heap.size,2,none⟩ (.int .i64 f)).setCell ⟨wr.heap.size,3,none⟩ (.bool v')).heap.size:=(Array.getElem?_eq_some_iff.1 S).1;clear t i ad aa W;have a9:Hid (_=_):=S;have q:Hid _:=U;have aA:=U.size;clear S U;unfold ab at *;unfold ah at *
    go_wp2_with (at_builtin;refine wpList_append_own _ rfl _ _ 39 rfl w.heap.size 3 i0 (.int .i64 0) 1 8 underlying39 hi0 aD ax aB rfl (by decide) _ _ _ rfl (G.alloc _) ⟨D.heap.size,0,none⟩ 1 1 [.int .i64 C] rfl rfl (ic _ _ _ _ (by simp)) (fun u A=>by simp at A;subst A;rfl) (by unfold maxLen;omega) (by omega) (by simp;omega) ?_)
    intro al w4 aj I _;have ae:ab w4 w.heap.size al (K++[C]):=ab.snoc aj;have r:ah w4 w.heap.size u8 xs:=World.ownsRow.kept (P.alloc _) I (dg P G (by decide));have s:w4.heap[wr.heap.size]? = some (.cells #[.int .i64 a,.int .i64 d,.int .i64 f,.bool v'] 111):=by
     rw[I.block wr.heap.size (by simp;omega) (fun c=>by have:=X wr.heap.size c.symm;omega),Below.heap_alloc _ _ _ a7];exact a9.out
    have T:Below w.heap.size w w4:=Below.grown (q.out.alloc q.out.size _) I (q.out.alloc q.out.size _).size (fun j hj=>(World.ownsRow.lt G j hj).1);have e0:=cell_of_row _ _ 0 _ _ _ s;have e1:=cell_of_row _ _ 1 _ _ _ s;have e2:=cell_of_row _ _ 2 _ _ _ s;have e3:=cell_of_row _ _ 3 _ _ _ s;have az:=T.size;have O:Hid (ab _ _ _ _):=ae;have p:Hid _:=T;clear aj I s N a9 X G P ae T o n m E q;unfold ah at r;go_wp2_with (at_builtin;refine wpList_append_own _ rfl _ _ 166 rfl w.heap.size 111 i1 _ 4 32 underlying166 hi1 aE ay aC rfl (by decide) _ _ _ rfl (r.alloc _) ⟨w4.heap.size,0,none⟩ 1 1 (elC (⟨a,d,f,v'⟩:El)) rfl rfl (mh _ _ (⟨a,d,f,v'⟩:El) _ (by simp)) ?hone (by unfold maxLen;omega) (by omega) (by simp;omega) ?_)
    case hone =>
     intro u A;simp[elC]at A
     rcases A with rfl|rfl|rfl|rfl <;> rfl
    intro aF w5 ak V _;have ac:ah w5 w.heap.size aF (xs++[(⟨a,d,f,v'⟩:El)]):=ah.snoc ak;have af:ab w5 w.heap.size al (K++[C]):=World.ownsRow.kept (World.ownsRow.alloc O.out _) V (dg O.out r (by decide));have a5:Below w.heap.size w w5:=Below.grown (p.out.alloc p.out.size _) V (p.out.alloc p.out.size _).size (fun j hj=>(World.ownsRow.lt r j hj).1);have an:Hid (ah _ _ _ _):=ac;have ap:Hid (ab _ _ _ _):=af;have am:Hid _:=a5;clear ak V ac af a5 O p e0 e1 e2 e3 r;go_wp2;exact⟨⟨k+1,_,_,_,_,ai,by go_num,rfl,F.out,(fun _=>rfl),ap.out,an.out,am.out⟩,by simp[intOf];omega⟩
  .have av:k=es.length:=by omega
   subst av;have ao:Hid (K=dc true es/\xs=ck true es):=by
    show _/\_
    unfold dc ck;rw[J.out];exact⟨rfl,rfl⟩
   have o:Hid (ab _ _ _ _):=M;have n:Hid (ah _ _ _ _):=L;have HB:Hid _:=l;clear M L l J hL R;go_wp2;go_ret3
   obtain⟨rfl,rfl⟩:=ao.out;exact⟨_,_,rfl,o.out,n.out,HB.out⟩
theorem Ix (w:World) (sh:Bool):Calls prog 137 #[.slice none 0 0,.bool sh] w fun e w'=>∃ v v',e=.returned (.tuple #[v,v',.bool true])/\ab w' w.heap.size v []/\ah w' w.heap.size v' []/\Below w.heap.size w w':=by
 go_enter func137,ntmps137;go_wp2;go_loopw [7,8,9,18] (fun v6 v7 bv iv wr=>v6=.slice none 0 0/\v7=.slice none 0 0/\bv=.bool false/\iv=.int .i64 0/\wr=w) (fun _ _ _ _ _=>0)
 case atStart=>exact⟨rfl,rfl,rfl,rfl,rfl⟩
 case round =>
  obtain⟨rfl,rfl,rfl,rfl,rfl⟩:=hrel;go_wp2;go_ret3
  exact⟨_,_,rfl,World.ownsRow_nil _ _ _ _,World.ownsRow_nil _ _ _ _,bX⟩
theorem L7 {w:World} {B:Nat} {v:Value} {es:List El}(sh:Bool) (c:es.length<=1000) (a:ah w B v es) :
  Calls prog 137 #[v,.bool sh] w fun e w'=>∃ v v',e=.returned (.tuple #[v,v',.bool true])/\ab w' w.heap.size v (dc sh es)/\ah w' w.heap.size v' (ck sh es)/\Below w.heap.size w w':=by
 rcases a.form with ⟨rfl,rfl⟩|⟨g,b,rfl,_,_⟩
 .exact Ix w sh
 .cases sh
  .exact Fq w B g b es c a
  .exact Fr w B g b es c a
end Go.Proofs.YtjbmgghehdemdaaGreatDoor
