/- IBytes6 -/
import Derived.Test.YtjbmgghehdemdaaGreatDoorMP14
import Derived.Maps.AppendAt
import Derived.Test.YtjbmgghehdemdaaGreatDoorMP16
import Derived.ProofKit
import Derived.LaidMore
import Derived.Deep.Strs
import Derived.Deep.Slices
namespace Go.Proofs.YtjbmgghehdemdaaGreatDoor
set_option maxRecDepth 100000
set_option maxHeartbeats 16000000
open _root_.Go.Proofs.Tryz
open Go.RowKit
theorem Dx:(prog.info? 9).map (fun i=>(i.zero,i.size,i.bytes))=some (some (.string ⟨#[]⟩),1,16):=by kernel_rfl
theorem gj {w:World} {B:Nat} {v:Value} {ss:List ByteArray}(h:aj w B v ss):∃ a c,v=.slice a ss.length c:=by
 rcases h.form with ⟨rfl,rfl⟩|⟨g,b,rfl,_,_⟩
 .exact⟨_,_,rfl⟩
 .exact⟨_,_,rfl⟩
def as6 (w:World) (gs:List (List Rw)) (f:List Rw->ByteArray) (ok:List Rw->Bool) (v i:Value) (wr:World):Prop :=
 ∃ k:Nat,k<=gs.length/\i=.int .i64 (k:Int)/\aj wr w.heap.size v ((gs.take k).map f)/\(∀ (j:Nat) (g:List Rw),j<k->gs[j]? = some g->ok g=true)/\Below w.heap.size w wr
theorem Da {gs:List (List Rw)} {k:Nat} {g:List Rw}(f:List Rw->ByteArray) (h:gs[k]? = some g):(gs.take (k+1)).map f=(gs.take k).map f++[f g]:=by
 rw[List.take_add_one,h];simp
theorem Zp {w:World} {v:Value} {gs:List (List Rw)}(hV:BkV w v gs) (hl:gs.length<=1048576) (L:∀ g ∈ gs,g.length<=1048576) :
  Calls prog 140 #[v] w fun e w'=>∃ v',e=.returned (.tuple #[v',.bool (Ac gs).isSome])/\aj w' w.heap.size v' ((Ac gs).getD [])/\Below w.heap.size w w':=by
 obtain⟨a,c,rfl,d⟩:=hV;obtain⟨R,u⟩:∃ R,Hid (Ac gs=R):=⟨_,rfl⟩
 rw[u.out];by_cases E:gs.length<=40
 .have Z:¬ (40:Int)<(gs.length:Int):=by omega
  have HQ:Hid _:=d;have HZ:=hZ L;have HV:Hid (BkV w (.slice a gs.length c) gs):=⟨a,c,rfl,d⟩;obtain⟨i0,hi0,W,X,Y⟩:=info_parts Dx;clear d L;go_enter func140,ntmps140;go_wp2_with fail;go_loopw [4,14] (fun v i wr=>as6 w gs pbT ip v i wr) (fun _ i _=>gs.length-(intOf i).toNat)
  case atStart=>exact⟨0,Nat.zero_le _,rfl,World.ownsRow_nil _ _ _ _,fun j g hj=>by omega,bX⟩
  case round =>
   obtain⟨k,hk,rfl,l,z,s⟩:=hrel;by_cases S:k<gs.length
   .obtain⟨g,f⟩:∃ g,gs[k]? = some g:=⟨_,List.getElem?_eq_getElem S⟩
    obtain⟨a',c',U,d⟩:=HV.out.below s bR;injection U with q1 _ q3;subst q1;subst q3;obtain⟨b,o,ax,cx,rfl,c1,H⟩:=d k g f;have a2:=ag c1;have a3:(k:Int)<(gs.length:Int):=by omega
    have n:=Jh (cap:=cx) H (HZ.out g (List.mem_of_getElem? f));have K:Hid ((gs.take (k+1)).map pbT=(gs.take k).map pbT++[pbT g]):=Da pbT f;have I:=hZ f;have J:=hZ z;have T:((gs.take k).map pbT).length<=40:=by simp;omega
    obtain⟨C,P⟩:∃ C,Hid ((gs.take k).map pbT=C):=⟨_,rfl⟩
    rw[P.out]at K T l;obtain⟨a4,c4,V⟩:=gj l;subst V;have y:=hZ l;have h:=hZ s;clear d H f z l s
    cases hok:ip g
    .rw[hok]at n
     have r:Hid (R=none):=by show _=_;rw[<- u.out];exact af3 I.out hok
     clear hok;generalize pbT g=pg at *;go_wp2_with fail;refine n.mono ?_;rintro e D ⟨rfl,p⟩;have m:=hZ (h.out.trans (p.mono h.out.size));clear n p;go_wp2;go_ret2;rw[r.out];exact⟨_,rfl,World.ownsRow_nil _ _ _ _,m.out⟩
    .rw[hok]at n
     have N:Hid (∀ (j:Nat) (g:List Rw),j<k+1->gs[j]? = some g->ip g=true):=fun j q hj d=>by
      by_cases e:j=k
      .rw[e,I.out]at d
       rw[<- Option.some.inj d];exact hok
      .exact J.out j q (by omega) d
     clear hok J;generalize pbT g=pg at *;go_wp2_with fail;refine n.mono ?_;rintro e D ⟨rfl,p⟩;have m:=hZ (h.out.trans (p.mono h.out.size));have B:=(Below.refl D.heap.size D).alloc bR (.cells #[.string pg] 9);have t:=(y.out.below p).below B;have A:Hid (Below w.heap.size w _):=m.out.trans (B.mono m.out.size);have a5:=m.out.size;unfold aj at t;clear n p y h B;go_wp2_with (at_builtin;refine wpList_append_lies _ rfl _ _ 23 rfl w.heap.size 9 i0 _ 1 16 underlying23 hi0 W X Y rfl (by decide) _ _ _ rfl t ⟨_,0,none⟩ 1 1 [.string pg] rfl rfl (cell_one_new _ _ _) (fun x hx=>by simp at hx;subst hx;rfl) (by omega) (by unfold maxLen;omega) (by omega) (by simp;omega) _ rfl ?_)
     intro g5 c5 u5 G F a0 a1;have O:Hid (aj u5 w.heap.size (.slice (some ⟨g5,0,none⟩) (C.length+1) c5) ((gs.take (k+1)).map pbT)):=by rw[K.out];exact aj.snoc G
     have M:Hid (Below w.heap.size w u5):=Below.grown A.out F A.out.size (fun i hj=>(World.ownsRow.lt t i hj).1);clear G F t m A;go_wp2;exact⟨⟨k+1,by omega,by go_num,O.out,N.out,M.out⟩,by simp[intOf];omega⟩
   .have Q:k=gs.length:=by omega
    subst Q;rw[List.take_length]at l;have r:Hid (R=some (gs.map pbT)):=by
     show _=_
     rw[<- u.out];exact Nq E (fun j g f=>z j g (List.getElem?_eq_some_iff.1 f).1 f)
    have y:Hid (aj wr w.heap.size _ (gs.map pbT)):=l;have h:=hZ s;clear l z s;go_wp2;go_ret2;rw[r.out];exact⟨_,rfl,y.out,h.out⟩
 .have Z:(40:Int)<(gs.length:Int):=by omega
  have r:Hid (R=none):=by show _=_;rw[<- u.out];exact Zo E
  clear d;go_enter func140,ntmps140;go_wp2;go_ret2;rw[r.out];exact⟨_,rfl,World.ownsRow_nil _ _ _ _,bX⟩
theorem Qb (l:List Rw):∀ v ∈ f7 l,v.oneCell'=true:=by
 intro v a;simp only[f7,List.mem_flatMap]at a;obtain⟨x,_,b⟩:=a;simp[rwC]at b
 rcases b with rfl|rfl|rfl <;> rfl
theorem b76 {w:World} {b o:Nat} {l:List Rw}(h:∀ (k:Nat) (e:Rw),l[k]? = some e->w.cell? ⟨b,o+k*3,none⟩=some (.string e.key)/\w.cell? ⟨b,o+k*3+1,none⟩=some (.string e.text)/\w.cell? ⟨b,o+k*3+2,none⟩=some (.string e.val)) :
  ∀ j v,(f7 l)[j]? = some v->w.cell? ((⟨b,o,none⟩:Addr).add j)=some v:=by
 intro j v a;have f:(⟨b,o,none⟩:Addr).add j=⟨b,o+j,none⟩:=by unfold Addr.add;split <;> simp_all
 rw[f];have p:=(List.getElem?_eq_some_iff.1 a).1;rw[ny]at p;obtain⟨k,i,rfl,d⟩:∃ k i,j=k*3+i/\i<3:=⟨j / 3,j % 3,by omega,by omega⟩
 obtain⟨e,c⟩:∃ e,l[k]? = some e:=⟨_,List.getElem?_eq_getElem (by omega)⟩
 rw[I0 l k i e c d]at a;obtain⟨g,m,n⟩:=h k e c;rw[show o+(k*3+i)=o+k*3+i by omega];match i,d with
 | 0,_=>simp[rwC]at a;subst a;exact g
 | 1,_=>simp[rwC]at a;subst a;exact m
 | 2,_=>simp[rwC]at a;subst a;exact n
structure CpS (w:World) (x:Rw) (l:List Rw) (bx g:Nat) (u:World):Prop where
 box:ep u bx x
 row:Rws u w.heap.size (.slice (some ⟨g,0,none⟩) l.length l.length) l
 bel:Below w.heap.size w u
def CpA (w:World) (x:Rw) (l:List Rw) (bx g k:Nat) (u:World):Prop :=
 u.cell? ⟨bx,0,none⟩=some (.string x.key)/\u.cell? ⟨bx,1,none⟩=some (.string x.text)/\u.cell? ⟨bx,2,none⟩=some (.string x.val)/\u.cell? ⟨g,k*3,none⟩=some (.string x.key)/\u.cell? ⟨g,k*3+1,none⟩=some (.string x.text)/\u.cell? ⟨g,k*3+2,none⟩=some (.string x.val)/\u.frozen? ⟨g,k*3,none⟩=false/\u.frozen? ⟨g,k*3+1,none⟩=false/\u.frozen? ⟨g,k*3+2,none⟩=false/\bx<u.heap.size/\g<u.heap.size/\CpS w x l bx g u
theorem CpS.all {w:World} {x:Rw} {l:List Rw} {a g k:Nat} {u:World}(h:CpS w x l a g u) (j:l[k]? = some x):CpA w x l a g k u:=by
 obtain⟨b,c,d⟩:=h.box.cells;obtain⟨e,f,i⟩:=h.row.cells k x j;exact⟨b,c,d,e,f,i,World.ownsRow.frozenAt h.row _,World.ownsRow.frozenAt h.row _,World.ownsRow.frozenAt h.row _,h.box.lt,(World.ownsRow.lt h.row g rfl).2,h⟩
theorem CpS.below {w:World} {x:Rw} {l:List Rw} {b g:Nat} {u u':World}(h:CpS w x l b g u) (a:Below u.heap.size u u'):CpS w x l b g u' :=
 ⟨h.box.below a,h.row.below a,h.bel.trans (a.mono h.bel.size)⟩
theorem CpS.put {w:World} {x:Rw} {l:List Rw} {a g k:Nat} {u:World}(h:CpS w x l a g u) (n:l[k]? = some x) (o:a≠g) (c:w.heap.size<=g) :
  CpS w x l a g (((u.setCell ⟨g,k*3,none⟩ (.string x.key)).setCell ⟨g,k*3+1,none⟩ (.string x.text)).setCell ⟨g,k*3+2,none⟩ (.string x.val)):=by
 have q:=(List.getElem?_eq_some_iff.1 n).1;have d:=World.ownsRow.stored h.row (k*3) (.string x.key);have f:=World.ownsRow.stored d.1 (k*3+1) (.string x.text);have i:=World.ownsRow.stored f.1 (k*3+2) (.string x.val);have j:=i.1;rw[<- aa8 _ k x q]at j;have p:l.set k x=l:=by
  obtain⟨r,rfl⟩:=List.getElem?_eq_some_iff.1 n;simp
 rw[p]at j;have b:∀ {u m:World},ep u a x->u.grownBy m (some g)->ep m a x:=fun {u m} b hg=>(hg.block a b.lt (fun e=>o (Option.some.inj e))).trans b
 exact⟨b (b (b h.box d.2) f.2) i.2,j,Hi (Hi (Hi h.bel d.2 c) f.2 c) i.2 c⟩
def b90 (w:World) (l:List Rw) (g:Nat) (i:Value) (wr:World):Prop :=
 ∃ k:Nat,k<=l.length/\i=.int .i64 (k:Int)/\Rws wr w.heap.size (.slice (some ⟨g,0,none⟩) l.length l.length) l/\Below w.heap.size w wr
theorem ak3:(prog.info? 37).map (fun i=>(i.zero,i.size,i.bytes))=some (some (.agg #[.string ⟨#[]⟩,.string ⟨#[]⟩,.string ⟨#[]⟩]),3,48):=by kernel_rfl
theorem aq4:(prog.info? 37).map (·.size)=some 3:=by kernel_rfl
theorem Nu {w:World} {a:Option Addr} {l:List Rw} {cap:Nat}(W:d8 w a l) (h0:0<l.length) (F:RwB l) :
  Calls prog 162 #[.slice a l.length cap] w fun e w'=>∃ v,e=.returned v/\Rws w' w.heap.size v l/\Below w.heap.size w w':=by
 obtain⟨b,o,rfl,p⟩:∃ b o,a=some ⟨b,o,none⟩/\∀ (k:Nat) (e:Rw),l[k]? = some e->w.cell? ⟨b,o+k*3,none⟩=some (.string e.key)/\w.cell? ⟨b,o+k*3+1,none⟩=some (.string e.text)/\w.cell? ⟨b,o+k*3+2,none⟩=some (.string e.val):=by
  rcases W with h|h
  .rw[h]at h0;simp at h0
  .exact h
 have hl:=F.1;have J:Hid (∀ u,Below w.heap.size w u->∀ j v,(f7 l)[j]? = some v->u.cell? ((⟨b,o,none⟩:Addr).add j)=some v):=fun u m=>by
  apply b76
  intro k e he;obtain⟨U,c1,c2⟩:=p k e he;have A:=ag U;exact⟨(m.cell A).trans U,(m.cell A).trans c1,(m.cell A).trans c2⟩
 have X:=hZ F;obtain⟨i0,hi,a3,a4,a5⟩:=info_parts ak3;have Z:=ny l;clear p W F;go_enter func162,ntmps162;go_upto_region 2 with (at_make;refine wpList_make_full _ rfl _ _ 32 rfl w.heap.size 37 i0 _ 3 underlying32 hi a3 a4 .i64 .i64 _ _ l.length rfl rfl rfl rfl (by rw[a5];omega) (by unfold maxLen;omega) bR ?_;intro w1 P O)
 have K:Below w.heap.size w w1:=Below.grown bX O bR (fun j hj=>by cases hj);obtain⟨n,N,a6⟩:∃ n,w1.heap[w.heap.size]? = some (.cells n 37 (0,0))/\n.size=l.length*3:=by
  rcases P.2 with ⟨h,_⟩|⟨g,a0,n,h1,_,h3,_,_,h6,_⟩
  .cases h
  .cases h1
   exact⟨n,h3,h6⟩
 have z:Hid _:=N;have y:=hZ K;obtain⟨g,E⟩:∃ g,Hid (g=w.heap.size):=⟨_,rfl⟩
 have B:w.heap.size<=g:=Nat.le_of_eq E.out.symm;rw[<- E.out]at z;rw[<- E.out];clear P O N K;go_wp2_with (refine Ie rfl _ _ 32 32 rfl 37 underlying32 3 aq4 g l.length _ ⟨b,o,none⟩ _ rfl rfl n 37 z.out (f7 l) (ny l) (J.out w1 y.out) (by omega) (Qb l) w.heap.size w y.out B ?_;intro w2 Q L)
 have f:Rws w2 w.heap.size (.slice (some ⟨g,0,none⟩) l.length l.length) l:=⟨ny l,.inr ⟨g,l.length,_,rfl,B,Q.out,bR,by unfold maxLen;omega,by simp;omega,by simp[<- Z]⟩⟩;have I:Hid (Rws _ _ _ _):=f;have G:=hZ L;clear f L Q z y J;go_wp2_with fail;go_loopw [14] (fun i wr=>b90 w l g i wr) (fun i _=>l.length-(intOf i).toNat)
 case atStart=>exact⟨0,Nat.zero_le _,rfl,I.out,G.out⟩
 case round =>
  clear I G;obtain⟨k,hk,rfl,f,q⟩:=hrel;by_cases a1:k<l.length
  .obtain⟨x,d⟩:∃ x,l[k]? = some x:=⟨_,List.getElem?_eq_getElem a1⟩
   have a8:(k:Int)<(l.length:Int):=by omega
   obtain⟨d0,d1,d2⟩:=f.cells k x d;have a7:=ag d0;obtain⟨z0,z1,z2⟩:=X.out.at d;have R:=fun u=>ux x.key u (by omega)
   have S:=fun u=>ux x.text u (by omega)
   have T:=fun u=>ux x.val u (by omega)
   have V:=(Below.refl wr.heap.size wr).alloc bR (.cells #[.string x.key,.string x.text,.string x.val] 37);have D:CpS w x l wr.heap.size g (wr.alloc (.cells #[.string x.key,.string x.text,.string x.val] 37)):=⟨n8 wr x,f.below V,q.alloc q.size _⟩;have a2:wr.heap.size≠g:=by omega
   have C:=D.all d;have r:=(D.below (bX.drew)).all d;have s:=fun (u1 u2:World) (q:Below u1.heap.size u1 u2) (m:CpA w x l wr.heap.size g k u1)=>(m.2.2.2.2.2.2.2.2.2.2.2.below q).all d
   have t:=fun (u1:World) (m:CpA w x l wr.heap.size g k u1)=>(m.2.2.2.2.2.2.2.2.2.2.2.put (k:=k) d a2 B).all d
   obtain⟨c,H⟩:∃ c,Hid (c=wr.heap.size):=⟨_,rfl⟩
   rw[<- H.out]at C r s t;unfold CpA at C r s t;clear f q D V d;go_wp2_with fail;rw[<- H.out];go_region_held (fun u=>u.cell? ⟨c,0,none⟩=some (.string x.key)/\u.cell? ⟨c,1,none⟩=some (.string x.text)/\u.cell? ⟨c,2,none⟩=some (.string x.val)/\u.cell? ⟨g,k*3,none⟩=some (.string x.key)/\u.cell? ⟨g,k*3+1,none⟩=some (.string x.text)/\u.cell? ⟨g,k*3+2,none⟩=some (.string x.val)/\u.frozen? ⟨g,k*3,none⟩=false/\u.frozen? ⟨g,k*3+1,none⟩=false/\u.frozen? ⟨g,k*3+2,none⟩=false/\c<u.heap.size/\g<u.heap.size/\CpS w x l c g u)
    (first|exact r|exact s _ _ (by assumption) (by assumption)|exact t _ (by assumption))
    (first|(go_at_call 123;refine (R _).mono ?_;rintro e w' ⟨rfl,M⟩)|(go_at_call 123;refine (S _).mono ?_;rintro e w' ⟨rfl,M⟩)|(go_at_call 123;refine (T _).mono ?_;rintro e w' ⟨rfl,M⟩))
   all_goals
    have p:CpA w x l c g k (((w'.setCell ⟨g,k*3,none⟩ (.string x.key)).setCell ⟨g,k*3+1,none⟩ (.string x.text)).setCell ⟨g,k*3+2,none⟩ (.string x.val)):=by assumption
    have HR:Hid (Rws _ _ _ _):=p.2.2.2.2.2.2.2.2.2.2.2.row;have HB:Hid _:=p.2.2.2.2.2.2.2.2.2.2.2.bel;clear p C r s t R S T;go_wp2;exact⟨⟨k+1,by omega,by go_num,HR.out,HB.out⟩,by simp[intOf];omega⟩
  .have Y:k=l.length:=by omega
   subst Y;go_wp2;go_ret;exact⟨_,rfl,f,q⟩
def ak8:Value->Nat
 | .slice _ n _=>n
 | _=>0
def b91 (w:World) (R:Option (List (List Rw))) (v0 v4:Value) (wr:World):Prop :=
 ∃ (l:List Rw) (acc:List (List Rw)) (vs:List Value) (hi:Nat) (al:Option Addr) (cl:Nat),v0=.slice al l.length cl/\l.length<=cl/\cl<=9223372036854775807/\d8 w al l/\da l=true/\az wr w.heap.size hi v4 acc vs/\acc.length<=40/\qe acc l=R/\Below w.heap.size w wr
theorem Su {w:World} {a:Option Addr} {l:List Rw} {c:Nat}(y:d8 w a l) (hl:l.length<=c) (hc:c<=9223372036854775807) (aw:l.length<=1048576) :
  Calls prog 139 #[.slice a l.length c] w fun e w'=>∃ v,e=.returned (.tuple #[v,.bool (ni l).isSome])/\(∀ gs,ni l=some gs->∃ vs,az w' w.heap.size w'.heap.size v gs vs)/\(ni l=none->v=.slice none 0 0)/\Below w.heap.size w w':=by
 have J:=Jg (cap:=c) y (by omega)
 cases g:da l
 .have HA:Hid (ni l=none):=by show _=_;unfold ni;rw[if_neg (by rw[g];decide)]
  rw[g]at J;rw[HA.out];clear y g;go_enter func139,ntmps139;go_wp2_with fail;refine J.mono ?_;rintro e w1 ⟨rfl,Z⟩;clear J;go_wp2;go_ret2;exact⟨_,rfl,fun gs h=>(by cases h),fun _=>rfl,Z⟩
 .obtain⟨R,HR⟩:∃ R,Hid (ni l=R):=⟨_,rfl⟩
  have C:Hid (qe [] l=R):=by show _=_;rw[<- HR.out];unfold ni;rw[if_pos g]
  rw[g]at J;rw[HR.out];obtain⟨i1,hi1,af,ag,ah⟩:=info_parts Cf;have L:=hZ y;have K:=hZ g;clear y g;go_enter func139,ntmps139;go_wp2_with fail;refine J.mono ?_;rintro e w1 ⟨rfl,Z⟩;have a9:=hZ Z;clear J Z;go_wp2_with fail;go_loopw [0,4] (fun v0 v4 wr=>b91 w R v0 v4 wr) (fun v0 _ _=>ak8 v0)
  case atStart=>exact⟨l,[],[],_,a,c,rfl,hl,hc,L.out,K.out,az.nil w1 _,by simp,C.out,a9.out⟩
  case round =>
   clear L K C a9 hl hc HR;obtain⟨l,m,vs,hi,al,r,rfl,hl,hc,y,g,V,ha,hF,W⟩:=hrel;by_cases M:l.length=0
   .have N:Hid (R=some m):=by show _=_;rw[<- hF,yj M]
    have D:Hid (az wr w.heap.size hi _ m vs):=V;have j:=hZ W;have ak:¬ (0:Int)<(l.length:Int):=by omega
    clear V W y hF g;go_wp2;go_ret2;rw[N.out];exact⟨_,rfl,fun gs h=>by obtain rfl:=Option.some.inj h;exact⟨_,D.out.high D.out.top bR⟩,fun h=>(by cases h),j.out⟩
   .have ak:(0:Int)<(l.length:Int):=by omega
    have a5:=oy g;have au:=mc g;have t:=Z8 (cap:=r) 300 (y.below W bR) a5 (by omega);obtain⟨q1,q2,q3⟩:=Z9 l 300;have L:=hZ y;have K:=hZ g;have D:=hZ V;have C:=hZ hF;have j:=hZ W;have ai:=hZ a5;obtain⟨n,Y⟩:∃ n,Hid (wn l 300=n):=⟨_,rfl⟩
    rw[Y.out]at t q1;obtain⟨a4,c4,ar,_⟩:=V.form;subst ar;clear y g V hF W a5 q2 q3;by_cases a8:n=0
    .have N:Hid (R=none):=by show _=_;rw[<- C.out];exact xy M (.inl (by rw[Y.out];exact a8))
     subst a8;go_wp2_with fail;refine t.mono ?_;rintro e s ⟨rfl,f⟩;have d:=hZ (j.out.trans (f.mono j.out.size));clear t f;go_wp2;go_ret2;rw[N.out];exact⟨_,rfl,fun gs h=>(by cases h),fun _=>rfl,d.out⟩
    .have ay:¬ (n:Int)=0:=by omega
     by_cases a3:m.length=40
     .have N:Hid (R=none):=by show _=_;rw[<- C.out];exact xy M (.inr a3)
      have am:(m.length:Int)=40:=by omega
      clear a3;go_wp2_with fail;refine t.mono ?_;rintro e s ⟨rfl,f⟩;have d:=hZ (j.out.trans (f.mono j.out.size));clear t f;go_wp2;go_ret2;rw[N.out];exact⟨_,rfl,fun gs h=>(by cases h),fun _=>rfl,d.out⟩
     .have am:¬ (m.length:Int)=40:=by omega
      have aa:Hid (qe (m++[l.take n]) (l.drop n)=R):=by show _=_;rw[<- C.out,Hb M (by rw[Y.out];exact a8) a3,Y.out]
      have ae:(l.take n).length=n:=by rw[List.length_take];omega
      have ad:(l.drop n).length=l.length-n:=List.length_drop;have aj:Hid (RwB (l.take n)):=oy (J9 K.out n);have ab:Hid (da (l.drop n)=true):=J7 K.out n;have I:=hZ ae;have X:=hZ ad;clear ae ad;obtain⟨b,o,rfl⟩:∃ b o,al=some ⟨b,o,none⟩:=by
       rcases L.out with h|⟨b,o,h,_⟩
       .rw[h]at M;simp at M
       .exact⟨b,o,h⟩
      have CP:Hid (∀ u,Below w.heap.size w u->Calls prog 162 #[.slice (some ⟨b,o,none⟩) n n] u fun e w'=>∃ v,e=.returned v/\Rws w' u.heap.size v (l.take n)/\Below u.heap.size u w'):=fun u hu=>by
       have:=Nu (cap:=n) ((L.out.below hu bR).take n) (by rw[I.out];omega) aj.out;rw[I.out]at this;exact this
      have ax:n<=l.length:=q1;have ao:(n:Int)<=(r:Int):=by omega
      have aA:((n:Int) == 0)=false:=by simp;omega
      have av:((m.length:Int) == 40)=false:=by simp;omega
      have ap:(n:Int)<=(l.length:Int):=by omega
      clear C K ai;by_cases ac:r=n
      .have a2:Hid (d8 w (some ⟨b,o,none⟩) (l.drop n)):=.inl (List.drop_eq_nil_of_le (by omega))
       subst ac;go_wp2_with fail;refine t.mono ?_;rintro e s ⟨rfl,f⟩;have d:=hZ (j.out.trans (f.mono j.out.size));have z:Hid (az s w.heap.size hi _ m vs):=D.out.below f;have S:=CP.out s d.out;clear t f j D;go_wp2_with fail;refine S.mono ?_;rintro e H ⟨v3,rfl,G,p⟩;obtain⟨F,E,Q,_⟩:=Eq G (by rw[I.out];omega);rw[I.out]at Q;subst Q;have k:=hZ (d.out.trans (p.mono d.out.size));have q:=(Below.refl H.heap.size H).alloc bR (.cells #[.slice (some ⟨F,0,none⟩) r E] 32);have B:=((z.out.below p).below q).row;have T:Hid (Below s.heap.size s (H.alloc (.cells #[.slice (some ⟨F,0,none⟩) r E] 32))):=p.alloc p.size _;have O:=hZ (G.below q)
       have aq:=k.out.size;clear S p G;go_wp2_with (at_builtin;refine wpList_append_lies _ rfl _ _ 132 rfl w.heap.size 32 i1 (.slice none 0 0) 1 24 underlying132 hi1 af ag ah rfl (by decide) _ _ _ rfl B ⟨_,0,none⟩ 1 1 [.slice (some ⟨F,0,none⟩) r E] rfl rfl (cell_one_new _ _ _) (fun x hx=>by simp at hx;subst hx;rfl) (by omega) (by unfold maxLen;omega) (by omega) (by simp;omega) _ rfl ?_)
       intro g5 c5 u5 P A a6 a7;have U:=z.out.push d.out.size T.out O.out A P;have a0:Hid (Below w.heap.size w u5):=Below.grown (k.out.trans (q.mono k.out.size)) A (Nat.le_trans k.out.size q.size) (fun i hj=>(World.ownsRow.lt B i hj).1);have a1:Hid _:=U;clear U T O A P B q z d k;go_wp2;exact⟨⟨l.drop r,m++[l.take r],_,_,_,0,by rw[X.out,show l.length-r=0 by omega],by rw[X.out];omega,by omega,a2.out,ab.out,a1.out,by simp;omega,aa.out,a0.out⟩,by simp[ak8];omega⟩
      .have an:(r == n)=false:=by simpa using ac
       have a2:Hid (d8 w (some ⟨b,o+n*3,none⟩) (l.drop n)):=L.out.drop n;go_wp2_with fail;refine t.mono ?_;rintro e s ⟨rfl,f⟩;have d:=hZ (j.out.trans (f.mono j.out.size));have z:Hid (az s w.heap.size hi _ m vs):=D.out.below f;have S:=CP.out s d.out;clear t f j D;go_wp2_with fail;refine S.mono ?_;rintro e H ⟨v3,rfl,G,p⟩;obtain⟨F,E,Q,_⟩:=Eq G (by rw[I.out];omega);rw[I.out]at Q;subst Q;have k:=hZ (d.out.trans (p.mono d.out.size));have q:=(Below.refl H.heap.size H).alloc bR (.cells #[.slice (some ⟨F,0,none⟩) n E] 32);have B:=((z.out.below p).below q).row;have T:Hid (Below s.heap.size s (H.alloc (.cells #[.slice (some ⟨F,0,none⟩) n E] 32))):=p.alloc p.size _
       have O:=hZ (G.below q);have aq:=k.out.size;clear S p G;go_wp2_with (at_builtin;refine wpList_append_lies _ rfl _ _ 132 rfl w.heap.size 32 i1 (.slice none 0 0) 1 24 underlying132 hi1 af ag ah rfl (by decide) _ _ _ rfl B ⟨_,0,none⟩ 1 1 [.slice (some ⟨F,0,none⟩) n E] rfl rfl (cell_one_new _ _ _) (fun x hx=>by simp at hx;subst hx;rfl) (by omega) (by unfold maxLen;omega) (by omega) (by simp;omega) _ rfl ?_)
       intro g5 c5 u5 P A a6 a7;have U:=z.out.push d.out.size T.out O.out A P;have a0:Hid (Below w.heap.size w u5):=Below.grown (k.out.trans (q.mono k.out.size)) A (Nat.le_trans k.out.size q.size) (fun i hj=>(World.ownsRow.lt B i hj).1);have a1:Hid _:=U;clear U T O A P B q z d k;go_wp2;exact⟨⟨l.drop n,m++[l.take n],_,_,_,r-n,by rw[X.out],by rw[X.out];omega,by omega,a2.out,ab.out,a1.out,by simp;omega,aa.out,a0.out⟩,by simp[ak8];omega⟩
def ba8 (w:World) (l:List Rw) (R:Option (List (List Rw))) (v4 i:Value) (wr:World):Prop :=
 ∃ (k hi:Nat) (out:List (List Rw)) (vs:List Value),k<=l.length/\i=.int .i64 (k:Int)/\az wr w.heap.size hi v4 out vs/\out.flatten=l.take k/\(∀ p ∈ out,0<p.length)/\scF out (l.drop k)=R/\Below w.heap.size w wr
theorem Od {out:List (List Rw)} {l:List Rw} {k:Nat}(h:out.flatten=l.take k) (a:∀ p ∈ out,0<p.length):out.length<=l.length:=by
 have b:∀ (o:List (List Rw)),(∀ p ∈ o,0<p.length)->o.length<=o.flatten.length:=by
  intro o;induction o with
  | nil=>intro _;simp
  | cons p o ih =>
   intro a;have:=ih (fun q hq=>a q (by simp[hq]));have:=a p (by simp);simp at *;omega
 have:=b out a;rw[h,List.length_take]at this;omega
theorem Oe {out:List (List Rw)} {l p:List Rw} {k:Nat}(h:out.flatten=l.take k) (a:p ∈ out):(∀ y ∈ p,y ∈ l)/\p.length<=l.length:=by
 refine⟨fun y hy=>?_,?_⟩
 .have:y ∈ out.flatten:=List.mem_flatten.2 ⟨p,a,hy⟩
  rw[h]at this;exact List.mem_of_mem_take this
 .have b:p.length<=out.flatten.length:=by
   obtain⟨s,t,rfl⟩:=List.append_of_mem a;simp
   omega
  rw[h,List.length_take]at b;omega
theorem Ln {out:List (List Rw)} {l:List Rw} {k:Nat} {x:Rw}(h:out.flatten=l.take k) (a:l[k]? = some x):(out++[[x]]).flatten=l.take (k+1):=by
 rw[List.take_add_one,a,List.flatten_append,h];simp
theorem a24 {o:List (List Rw)} {p l:List Rw} {k:Nat} {x:Rw}(h:(o++[p]).flatten=l.take k) (a:l[k]? = some x):(o++[p++[x]]).flatten=l.take (k+1):=by
 rw[List.take_add_one,a,<- h];simp
theorem Dk (w:World) (n:Nat) (x:Value) (t:TypeId) (hn:n=w.heap.size):∀ j u,[x][j]? = some u->(w.alloc (.cells #[x] t)).cell? ((⟨n,0,none⟩:Addr).add j)=some u:=by
 subst hn;exact cell_one_new w x t
theorem aq2 (o:List (List Rw)) (p q:List Rw):(o++[p]).set o.length q=o++[q]:=by simp
theorem Vh (r:List (List Rw)):(xg (some r)).isSome=decide ((r.length:Int)<=40):=by
 show (if r.length<=40 then some r else none).isSome=_
 by_cases h:r.length<=40
 .have a:(r.length:Int)<=40:=by omega
  rw[if_pos h,decide_eq_true a];rfl
 .have a:¬ (r.length:Int)<=40:=by omega
  rw[if_neg h,decide_eq_false a];rfl
theorem Qj {w:World} {a:Option Addr} {l:List Rw} {c:Nat}(hS:d8 w a l) (hg:da l=true) (hl:l.length<=c) (hc:c<=9223372036854775807) :
  Calls prog 80 #[.slice a l.length c] w fun e w'=>∃ v,e=.returned (.tuple #[v,.bool (xg (scF [] l)).isSome])/\(∀ gs,scF [] l=some gs->∃ vs,az w' w.heap.size w'.heap.size v gs vs)/\(scF [] l=none->v=.slice none 0 0)/\Below w.heap.size w w':=by
 obtain⟨R,HR⟩:∃ R,Hid (scF [] l=R):=⟨_,rfl⟩
 rw[HR.out];have be:=mc hg;have ao:Hid (RwB l):=oy hg;have HS:=hZ hS;obtain⟨i1,hi1,aJ,aK,aL⟩:=info_parts Cf;clear hS hg;go_enter func80,ntmps80;go_wp2_with fail;go_loopw [4,11] (fun v4 i wr=>ba8 w l R v4 i wr) (fun _ i _=>l.length-(intOf i).toNat)
 case atStart=>exact⟨0,_,[],[],Nat.zero_le _,rfl,az.nil w _,by simp,fun p hp=>by simp at hp,HR.out,bX⟩
 case round =>
  obtain⟨k,hi,out,vs,hk,rfl,hN,af,ai,hE,B⟩:=hrel;obtain⟨a4,c4,b5,fm⟩:=hN.form;subst b5;have bm:=Od af ai;by_cases aZ:k<l.length
  .obtain⟨x,r⟩:∃ x,l[k]? = some x:=⟨_,List.getElem?_eq_getElem aZ⟩
   rcases HS.out with h0|⟨b,o,rfl,aE⟩
   .rw[h0]at r;simp at r
   have bi:(k:Int)<(l.length:Int):=by omega
   have bh:(k:Int)+1<=(c:Int):=by omega
   have bg:(c == k)=false:=by simp;omega
   have bb:IntKind.i64.wrap ((k:Int)+1)=(k:Int)+1:=by rw[IntKind.wrap_i64];omega
   have br:((k:Int)+1).toNat=k+1:=by omega
   obtain⟨e0,e1,e2⟩:=aE k x r;have a5:=ag e0;have a0:wr.cell? ⟨b,o+k*3,none⟩=some (.string x.key):=(B.cell a5).trans e0;have a1:wr.cell? ⟨b,o+k*3+1,none⟩=some (.string x.text):=(B.cell a5).trans e1;have a2:wr.cell? ⟨b,o+k*3+2,none⟩=some (.string x.val):=(B.cell a5).trans e2;have bf:=ag a0;have aR:Hid (d8 w (some ⟨b,o+k*3,none⟩) [x]):=.inr ⟨b,o+k*3,rfl,fun j e he=>by
    match j,he with
    | 0,he=>simp at he;subst he;simpa using ⟨e0,e1,e2⟩⟩
   obtain⟨z0,z1,z2⟩:=ao.out.at r;have aC:Hid (RwB [x]):=⟨by simp,fun y f=>by simp at f;subst f;exact⟨z0,z1,z2⟩⟩;have bA:Below wr.heap.size wr (wr.alloc (.cells #[.string x.key,.string x.text,.string x.val] 37)):=bY _;have PG:Calls prog 81 #[.slice (some ⟨b,o+k*3,none⟩) 1 (c-k)] (wr.alloc (.cells #[.string x.key,.string x.text,.string x.val] 37)) fun e w'=>e=.returned (.string (byT (ff [x])))/\(Below wr.heap.size wr w'/\ep w' wr.heap.size x) :=
    (sw (cap:=c-k) (l:=[x]) (aR.out.below (B.trans (bA.mono B.size)) bR) aC.out).mono fun e w' h=>⟨h.1,bA.trans (h.2.mono bA.size),(n8 wr x).below h.2⟩
   have V:Hid ((byT (ff [x])).size=lnP [x]):=qw _;have Z:Hid (az wr w.heap.size hi _ out vs):=hN;have T:=hZ B;have ab:=hZ af;have am:=hZ ai;have L:=hZ hE;have P:Hid (l.drop k=x::l.drop (k+1)):=b08 r;have HX:=hZ r;have bd:Hid _:=fm;generalize byT (ff [x])=s1 at *;clear hN af ai hE r fm aE e0 e1 e2 a5 B bA;have bp:s1.size<=196098:=by rw[V.out];exact E9 aC.out
   by_cases a3:300<s1.size
   .have aq:Hid (R=none):=by show _=_;rw[<- L.out,P.out];exact ze (by rw[<- V.out];exact a3)
    have ar:(300:Int)<(s1.size:Int):=by omega
    go_wp2_with fail;refine PG.mono ?_;rintro e d ⟨rfl,Q,_⟩;have n:=hZ (T.out.trans (Q.mono T.out.size));clear PG Q;go_wp2;go_ret2;rw[aq.out];exact⟨_,rfl,fun gs h=>(by cases h),fun _=>rfl,n.out⟩
   .have ar:¬ (300:Int)<(s1.size:Int):=by omega
    go_wp2_with fail;refine PG.mono ?_;rintro e d ⟨rfl,Q,x2⟩;have n:=hZ (T.out.trans (Q.mono T.out.size));have u:Hid (az d w.heap.size hi _ out vs):=Z.out.below Q;have X:=hZ x2;obtain⟨d0,d1,d2⟩:=x2.cells;have bc:=x2.lt;clear PG Q x2 T Z a0 a1 a2;by_cases h0:out.length=0
    .obtain rfl:out=[]:=List.eq_nil_of_length_eq_zero h0
     have U:Hid (scF [[x]] (l.drop (k+1))=R):=by show _=_;rw[<- L.out,P.out,zy (by rw[<- V.out];exact a3)]
     have N:Below d.heap.size d ((d.alloc (.cells #[.string x.key,.string x.text,.string x.val] 37)).alloc (.cells #[.slice (some ⟨d.heap.size,0,none⟩) 1 1] 32)):=(bY _).alloc (by simp) _;have K:=(u.out.below N).row;have r3:=jw d d.heap.size d.heap.size x rfl bR;have W:Hid (Rws _ d.heap.size (.slice (some ⟨d.heap.size,0,none⟩) 1 1) [x]):=r3.below (bY (.cells #[.slice (some ⟨d.heap.size,0,none⟩) 1 1] 32));have b4:=n.out.size;have A:Hid _:=N;clear r3 L N
     go_wp2_with (at_builtin;refine wpList_append_lies _ rfl _ _ 132 rfl w.heap.size 32 i1 (.slice none 0 0) 1 24 underlying132 hi1 aJ aK aL rfl (by decide) _ _ _ rfl K ⟨_,0,none⟩ 1 1 [.slice (some ⟨d.heap.size,0,none⟩) 1 1] rfl rfl (Dk _ _ _ _ (by simp)) (fun x r=>by simp at r;subst r;rfl) (by omega) (by unfold maxLen;omega) (by omega) (by simp;omega) _ rfl ?_)
     intro g5 c5 u5 Y J au av;have N5:=u.out.push n.out.size A.out W.out J Y;have aj:Hid (Below w.heap.size w u5):=Below.grown (n.out.trans (A.out.mono n.out.size)) J (Nat.le_trans n.out.size A.out.size) (fun i hj=>(World.ownsRow.lt K i hj).1);have al:Hid _:=N5;clear N5 W J Y K u n A;go_wp2;exact⟨⟨k+1,_,[[x]],_,by omega,by go_num,al.out,Ln (out:=[]) ab.out HX.out,fun p hp=>by simp at hp;subst hp;simp,U.out,aj.out⟩,by simp[intOf];omega⟩
    .obtain⟨H,p,M⟩:∃ H p,Hid (out=H++[p]):=by
      rcases List.eq_nil_or_concat out with h|⟨H,p,h⟩
      .rw[h]at h0;simp at h0
      .exact⟨H,p,by show _=_;rw[h];simp⟩
     obtain⟨m,HM⟩:∃ m,Hid (out.length=m+1):=⟨out.length-1,(by show _=_;omega)⟩
     have b0:m<out.length:=by rw[HM.out];omega
     have bj:(0:Int)<(out.length:Int):=by omega
     have bk:(out.length:Int)-1=(m:Int):=by have:=HM.out;omega
     have bl:(m:Int)<(out.length:Int):=by omega
     have ay:Hid (H.length=m):=by have h1:=HM.out;have h2:=congrArg List.length M.out;simp at h2;show _=_;omega
     have ah:out[m]? = some p:=by rw[M.out,<- ay.out];simp
     obtain⟨vp,aH,hI,_⟩:=u.out.ins m p ah;obtain⟨a9,c9,aG,aD⟩:=u.out.form;obtain⟨gb,aV,aX,_,cb,fz⟩:=aD m vp aH;obtain⟨rfl,rfl⟩:a4=a9/\c4=c9:=by
      injection aG with q1 q2 q3;exact⟨q1,q3⟩
     subst aV;have aT:=ag cb;obtain⟨aF,bo⟩:=Oe ab.out (List.mem_of_getElem? ah);have aP:=hZ aF;obtain⟨D,E,rfl⟩:=cz hI;have ac:Hid (SlV d (.slice D p.length E) p):=hI.slV;have bn:=am.out p (List.mem_of_getElem? ah);clear hI aH aD ah aG aF fz a3;have bs:IntKind.i64.wrap (m:Int)=(m:Int):=by rw[IntKind.wrap_i64];omega
     have bE:Below d.heap.size d (d.alloc (.cells #[] 37)):=bY _;have R0:Hid (Rws (d.alloc (.cells #[] 37)) d.heap.size (.slice (some ⟨d.heap.size,0,none⟩) 0 0) []):=ue d _ _ rfl bR;have S0:Hid (SlV (d.alloc (.cells #[] 37)) (.slice D p.length E) p):=ac.out.below bE bR;have bF:Below d.heap.size d ((d.alloc (.cells #[] 37)).alloc (.cells #[.string x.key,.string x.text,.string x.val] 37)):=bE.alloc (by simp) _;have R1:Hid (Rws ((d.alloc (.cells #[] 37)).alloc (.cells #[.string x.key,.string x.text,.string x.val] 37)) d.heap.size (.slice (some ⟨d.heap.size,0,none⟩) 0 0) []):=R0.out.below (bY _);have S1:Hid (SlV ((d.alloc (.cells #[] 37)).alloc (.cells #[.string x.key,.string x.text,.string x.val] 37)) (.slice D p.length E) p):=ac.out.below bF bR
     have X1:Hid (Rws ((d.alloc (.cells #[] 37)).alloc (.cells #[.string x.key,.string x.text,.string x.val] 37)) d.heap.size (.slice (some ⟨d.heap.size+1,0,none⟩) 1 1) [x]):=jw _ _ _ x (by simp) (by simp);have bG:Below d.heap.size d ((d.alloc (.cells #[.string x.key,.string x.text,.string x.val] 37)).alloc (.cells #[] 37)):=(bY _).alloc (by simp) _;have R2:Hid (Rws ((d.alloc (.cells #[.string x.key,.string x.text,.string x.val] 37)).alloc (.cells #[] 37)) d.heap.size (.slice (some ⟨d.heap.size+1,0,none⟩) 0 0) []):=ue _ _ _ (by simp) (by simp);have S2:Hid (SlV ((d.alloc (.cells #[.string x.key,.string x.text,.string x.val] 37)).alloc (.cells #[] 37)) (.slice D p.length E) p):=ac.out.below bG bR
     have X2:Hid (Rws ((d.alloc (.cells #[.string x.key,.string x.text,.string x.val] 37)).alloc (.cells #[] 37)) d.heap.size (.slice (some ⟨d.heap.size,0,none⟩) 1 1) [x]):=(jw d _ _ x rfl bR).below (bY _);go_upto_region 9 with fail
     go_cut [8,11] from 11 to 52 (fun v8 i wx=>i=.int .i64 (k:Int)/\Rws wx d.heap.size v8 (p++[x])/\Below d.heap.size d wx)
     case first =>
      go_region_law (first
       | (refine eq rfl (.tmp 28) (.tmp 33) rfl d.heap.size (.slice (some ⟨d.heap.size,0,none⟩) 0 0) (.slice D p.length E) [] p rfl rfl (lp R0.out rfl) (iu S0.out rfl) (by simp;omega) (by first|(simp;done)|(simp;omega)) ?_;intro v6 w6 G z;have t:Below d.heap.size d w6:=Below.grown (by repeat (first|with_reducible exact bE|with_reducible refine Below.drew ?_)) z (by first|(simp;done)|(simp;omega)) (fun g e=>by cases e;first|exact bR|exact Nat.le_succ _);have I:=X.out.below t;obtain⟨f0,f1,f2⟩:=I.cells;have aI:=I.lt;have aM:=t.size;clear z)
       | (refine eq rfl (.tmp 28) (.tmp 33) rfl d.heap.size (.slice (some ⟨d.heap.size,0,none⟩) 0 0) (.slice D p.length E) [] p rfl rfl (lp R1.out rfl) (iu S1.out rfl) (by simp;omega) (by first|(simp;done)|(simp;omega)) ?_;intro v6 w6 G z;have t:Below d.heap.size d w6:=Below.grown (by repeat (first|with_reducible exact bF|with_reducible refine Below.drew ?_)) z (by first|(simp;done)|(simp;omega)) (fun g e=>by cases e;first|exact bR|exact Nat.le_succ _);have ax:=Ut z X1.out rfl (by simp[Value.ownBlock]);have I:=X.out.below t;obtain⟨f0,f1,f2⟩:=I.cells;have aI:=I.lt;have aM:=t.size;clear z)
       | (refine eq rfl (.tmp 28) (.tmp 33) rfl d.heap.size (.slice (some ⟨d.heap.size+1,0,none⟩) 0 0) (.slice D p.length E) [] p rfl rfl (lp R2.out rfl) (iu S2.out rfl) (by simp;omega) (by first|(simp;done)|(simp;omega)) ?_;intro v6 w6 G z;have t:Below d.heap.size d w6:=Below.grown (by repeat (first|with_reducible exact bG|with_reducible refine Below.drew ?_)) z (by first|(simp;done)|(simp;omega)) (fun g e=>by cases e;first|exact bR|exact Nat.le_succ _);have ax:=Ut z X2.out rfl (by simp[Value.ownBlock]);have I:=X.out.below t;obtain⟨f0,f1,f2⟩:=I.cells;have aI:=I.lt;have aM:=t.size;clear z)
       | (refine eq rfl (.tmp 34) (.tmp 36) rfl d.heap.size v6 (.slice (some ⟨w6.heap.size,0,none⟩) 1 1) ([]++p) [x] rfl rfl (lp (G.below (bY (.cells #[.string x.key,.string x.text,.string x.val] 37))) rfl) (iu (jw w6 w6.heap.size w6.heap.size x rfl bR).slV rfl) (by simp;omega) (by first|omega|(simp;omega)) ?_;intro v7 w7 i7 F;have b7:Below d.heap.size d w7:=Below.grown (by repeat (first|with_reducible exact (t.alloc t.size _)|with_reducible refine Below.drew ?_)) F (by first|omega|(simp;omega)) (fun g e=>(World.ownsRow.lt G g e).1);clear F)
       | (refine eq rfl (.tmp 34) (.tmp 36) rfl d.heap.size v6 (.slice (some ⟨d.heap.size+1,0,none⟩) 1 1) ([]++p) [x] rfl rfl (lp G rfl) (iu ax rfl) (by simp;omega) (by first|omega|(simp;omega)) ?_;intro v7 w7 i7 F;have b7:Below d.heap.size d w7:=Below.grown (by repeat (first|with_reducible exact t|with_reducible refine Below.drew ?_)) F (by first|omega|(simp;omega)) (fun g e=>(World.ownsRow.lt G g e).1);clear F)
       | (refine eq rfl (.tmp 34) (.tmp 36) rfl d.heap.size v6 (.slice (some ⟨d.heap.size,0,none⟩) 1 1) ([]++p) [x] rfl rfl (lp G rfl) (iu ax rfl) (by simp;omega) (by first|omega|(simp;omega)) ?_;intro v7 w7 i7 F;have b7:Below d.heap.size d w7:=Below.grown (by repeat (first|with_reducible exact t|with_reducible refine Below.drew ?_)) F (by first|omega|(simp;omega)) (fun g e=>(World.ownsRow.lt G g e).1);clear F))
      all_goals
       have hK:Rws w7 d.heap.size v7 (p++[x]):=by simpa using i7
       clear i7;go_wp2_with fail;go_meet
       case rel=>exact⟨rfl,hK,b7⟩
     case rest =>
      obtain⟨rfl,r8,b8⟩:=hcut;obtain⟨q,C⟩:∃ q,Hid (q=p++[x]):=⟨_,rfl⟩
      rw[<- C.out]at r8;have b1:q.length=p.length+1:=by rw[C.out];simp
      have aA:Hid (RwB q):=by
       rw[C.out];refine⟨by simp;omega,fun y f=>?_⟩;rcases List.mem_append.1 f with f|f
       .exact ao.out.2 y (aP.out y f)
       .simp at f;subst f;exact⟨z0,z1,z2⟩
      obtain⟨a8,c8,ba⟩:=cz r8;subst ba;have ad:Calls prog 81 #[.slice a8 q.length c8] wc fun e w'=>e=.returned (.string (byT (ff q)))/\Below wc.heap.size wc w':=sw (gu r8) aA.out
      have a6:Hid ((byT (ff q)).size=lnP q):=qw _;generalize byT (ff q)=s2 at *;have bq:s2.size<=196098:=by rw[a6.out];exact E9 aA.out
      have b3:q.length<=61:=by omega
      have an:=hZ r8;have O:=hZ b8;clear r8 b8 bE R0 S0 bF R1 S1 X1 bG R2 S2 X2 ac ao b1;by_cases a7:s2.size<=300
      .have aa:(s2.size:Int)<=300:=by omega
       have U:Hid (scF (H++[q]) (l.drop (k+1))=R):=by
        show _=_
        rw[<- L.out,P.out,M.out,zf (by rw[<- V.out];omega) (by rw[<- C.out,<- a6.out];exact a7),C.out]
       clear L P;go_wp2_with fail;refine ad.mono ?_;rintro e w9 ⟨rfl,S⟩;have s:=hZ (O.out.trans (S.mono O.out.size));have aB:=hZ (an.out.below S);have aS:w9.cell? ⟨gb,m,none⟩=some (.slice D p.length E):=(s.out.cell aT).trans cb;have aW:=ag aS;have aU:w9.frozen? ⟨gb,m,none⟩=false:=World.ownsRow.frozenAt (u.out.below s.out).row m;have aN:Hid (Below w.heap.size w (w9.setCell ⟨gb,m,none⟩ (.slice a8 q.length c8))):=(n.out.trans (s.out.mono n.out.size)).setCell aX _;have aQ:Hid (out.set m q=H++[q]):=by show _=_;rw[M.out,<- ay.out];exact aq2 _ _ _
       have aw:=u.out.store n.out.size s.out aB.out b0;rw[aQ.out]at aw;have aO:Hid _:=aw;clear aw ad S s aB O an cb u n;go_wp2;refine⟨⟨k+1,_,H++[q],_,by omega,by go_num,aO.out,by rw[C.out];exact a24 (by rw[<- M.out];exact ab.out) HX.out,fun y f=>?_,U.out,aN.out⟩,by simp[intOf];omega⟩;rcases List.mem_append.1 f with f|f
       .exact am.out y (by rw[M.out];exact List.mem_append_left _ f)
       .simp at f;rw[f,C.out];simp
      .have aa:¬ (s2.size:Int)<=300:=by omega
       have U:Hid (scF (out++[[x]]) (l.drop (k+1))=R):=by
        show _=_
        rw[<- L.out,P.out,M.out,Bh (by rw[<- V.out];omega) (by rw[<- C.out,<- a6.out];exact a7)]
       clear L P;go_wp2_with fail;refine ad.mono ?_;rintro e w9 ⟨rfl,S⟩;have ae:Below d.heap.size d w9:=O.out.trans (S.mono O.out.size);have s:=hZ (n.out.trans (ae.mono n.out.size));have ak:Hid (az w9 w.heap.size hi _ out vs):=u.out.below ae;have x9:=X.out.below ae;obtain⟨f0,f1,f2⟩:=x9.cells;have bt:=x9.lt;have N:Below w9.heap.size w9 ((w9.alloc (.cells #[.string x.key,.string x.text,.string x.val] 37)).alloc (.cells #[.slice (some ⟨w9.heap.size,0,none⟩) 1 1] 32)):=(bY _).alloc (by simp) _;have K:=(ak.out.below N).row;have r3:=jw w9 w9.heap.size w9.heap.size x rfl bR;have W:Hid (Rws _ w9.heap.size (.slice (some ⟨w9.heap.size,0,none⟩) 1 1) [x]):=r3.below (bY (.cells #[.slice (some ⟨w9.heap.size,0,none⟩) 1 1] 32));have b4:=s.out.size
       have A:Hid _:=N;clear r3 N ad S ae x9 O an cb u n X d0 d1 d2;go_wp2_with (at_builtin;refine wpList_append_lies _ rfl _ _ 132 rfl w.heap.size 32 i1 (.slice none 0 0) 1 24 underlying132 hi1 aJ aK aL rfl (by decide) _ _ _ rfl K ⟨_,0,none⟩ 1 1 [.slice (some ⟨w9.heap.size,0,none⟩) 1 1] rfl rfl (Dk _ _ _ _ (by simp)) (fun x r=>by simp at r;subst r;rfl) (by omega) (by unfold maxLen;omega) (by omega) (by simp;omega) _ rfl ?_)
       intro g5 c5 u5 Y J au av;have N5:=ak.out.push s.out.size A.out W.out J Y;have aj:Hid (Below w.heap.size w u5):=Below.grown (s.out.trans (A.out.mono s.out.size)) J (Nat.le_trans s.out.size A.out.size) (fun i hj=>(World.ownsRow.lt K i hj).1);have al:Hid _:=N5;clear N5 W J Y K ak s A;go_wp2;refine⟨⟨k+1,_,out++[[x]],_,by omega,by go_num,al.out,Ln ab.out HX.out,fun y f=>?_,U.out,aj.out⟩,by simp[intOf];omega⟩;rcases List.mem_append.1 f with f|f
       .exact am.out y f
       .simp at f;rw[f];simp
  .have aY:k=l.length:=by omega
   subst aY;have aq:Hid (R=some out):=by show _=_;rw[<- hE,List.drop_length];rfl
   have Z:Hid (az wr w.heap.size hi _ out vs):=hN;have HB:=hZ B;clear hN af ai hE fm B;go_wp2;go_ret2;rw[aq.out,Vh];exact⟨_,rfl,fun gs h=>by obtain rfl:=Option.some.inj h;exact⟨_,Z.out.high Z.out.top bR⟩,fun h=>(by cases h),HB.out⟩
theorem Ke {l:List Rw}(a:da l=true):ni l=xg (scF [] l):=by unfold ni;rw[if_pos a,av6]
theorem af4 {o:Option (List (List Rw))} {gs:List (List Rw)}(h:xg o=some gs):o=some gs:=by
 cases o with
 | none=>cases h
 | some r =>
  have a:(if r.length<=40 then some r else none)=some gs:=h;split at a
  .exact a
  .cases a
def pgT (g:List Rw):ByteArray:=byT (ff g)
def l8 (l:List Rw):Option (List ByteArray):=match ni l with
 | none=>none
 | some gs=>some (gs.map pbT)
theorem ul {l:List Rw}(h:ni l=none):l8 l=none:=by unfold l8;rw[h]
theorem um {l:List Rw} {gs:List (List Rw)}(h:ni l=some gs):l8 l=some (gs.map pbT):=by unfold l8;rw[h]
theorem I9 (l:List Rw):∀ (out r:List (List Rw)),scF out l=some r->r.flatten=out.flatten++l:=by
 induction l with
 | nil =>
  intro out r h;have c:some out=some r:=h
  cases c
  simp
 | cons x l ih =>
  intro out r h;by_cases a:300<lnP [x]
  .rw[ze a]at h;cases h
  .cases hg:out.getLast? with
   | none =>
    obtain rfl:out=[]:=List.getLast?_eq_none_iff.1 hg;rw[zy a]at h;rw[ih _ _ h];simp
   | some p =>
    obtain⟨o,rfl⟩:∃ o,out=o++[p]:=List.getLast?_eq_some_iff.1 hg
    by_cases b:lnP (p++[x])<=300
    .rw[zf a b]at h
     rw[ih _ _ h];simp
    .rw[Bh a b]at h
     rw[ih _ _ h];simp
theorem b14 {l:List Rw} {r:List (List Rw)}(a:da l=true) (h:scF [] l=some r):(∀ g ∈ r,RwB g):=by
 have d:=I9 l [] r h;intro g e;have c:=oy a;have f:=mc a;obtain⟨b,i⟩:=Oe (out:=r) (l:=l) (k:=l.length) (by rw[d];simp) e;exact⟨by omega,fun x hx=>c.2 x (b x hx)⟩
theorem L7:∀ (ss:List ByteArray) (acc gs:List (List Rw)),bkF acc ss=some gs->gs=acc++ss.map am/\∀ s ∈ ss,dg s=0
 | [],acc,gs,h=>by
  have c:some acc=some gs:=h
  cases c
  simp
 | s::ss,acc,gs,h=>by
  unfold bkF at h;by_cases a:ii acc s=true
  .rw[if_pos a]at h
   obtain⟨d,e⟩:=L7 ss _ gs h;refine⟨by rw[d];simp,fun t b=>?_⟩;rcases List.mem_cons.1 b with rfl|b
   .unfold ii at a
    rw[Bool.and_eq_true,decide_eq_true_eq]at a;exact a.1
   .exact e t b
  .rw[if_neg a]at h
   cases h
theorem Rq {ss:List ByteArray} {gs:List (List Rw)}(h:bz ss=some gs):gs=ss.map am/\∀ s ∈ ss,dg s=0:=by
 unfold bz at h;split at h
 .have:=L7 ss [] gs h
  simpa using this
 .cases h
theorem Zz {l:List Rw} {gs:List (List Rw)}(h:ni l=some gs):da l=true/\gs.flatten=l:=by
 by_cases a:da l=true
 .refine⟨a,?_⟩
  rw[Ke a]at h
  cases hs:scF [] l with
  | none=>rw[hs]at h;cases h
  | some r =>
   rw[hs]at h;have b:=I9 l [] r hs;unfold xg at h;simp only at h;split at h
   .cases h
    simpa using b
   .cases h
 .unfold ni at h
  rw[if_neg a]at h
  cases h
theorem xm {l:List Rw} {p:List ByteArray}(h:l8 l=some p):∃ gs,bz p=some gs/\gs.flatten=l/\gs=p.map am/\(∀ s ∈ p,dg s=0)/\p.length<=40/\∀ s ∈ p,s.size<=300:=by
 cases hc:ni l with
 | none=>rw[ul hc]at h;cases h
 | some gs =>
  rw[um hc]at h
  cases h
  obtain⟨j,d⟩:=Zz hc;obtain⟨b,a⟩:=Kf hc;have k:gs.map pbT=gs.map pgB:=List.map_congr_left fun g hgm=>b70 (a g hgm)
  have i:=af8 j d a;have c:bz (gs.map pbT)=some gs:=by
   rw[k,Vd i,if_pos ⟨b,fun g hgm=>(am2 (a g hgm)).1⟩]
  obtain⟨e,f⟩:=Rq c;refine⟨gs,c,d,e,f,by simpa using b,fun s hs=>?_⟩;obtain⟨g,_,rfl⟩:=List.mem_map.1 hs;exact an1 g
def bd (u:World) (p:Nat) (r:ByteArray) (v:Value) (log:ByteArray) (syn:Int):Prop:=u.heap[p]? = some (.cells #[.string r,v,.string log,.int .i64 syn] 25)
theorem bd.lt {u:World} {p:Nat} {r:ByteArray} {v:Value} {log:ByteArray} {syn:Int}(h:bd u p r v log syn):p<u.heap.size:=(Array.getElem?_eq_some_iff.1 h).1
theorem bd.below {u u':World} {p:Nat} {r:ByteArray} {v:Value} {log:ByteArray} {syn:Int}(h:bd u p r v log syn) (a:Below u.heap.size u u'):bd u' p r v log syn:=(a.block p h.lt).trans h
theorem bd.facts {u:World} {p:Nat} {r:ByteArray} {v:Value} {log:ByteArray} {syn:Int}(h:bd u p r v log syn):p<u.heap.size/\u.cell? ⟨p,0,none⟩=some (.string r)/\u.cell? ⟨p,1,none⟩=some v/\u.cell? ⟨p,2,none⟩=some (.string log)/\u.cell? ⟨p,3,none⟩=some (.int .i64 syn)/\∀ j,u.frozen? ⟨p,j,none⟩=false :=
 ⟨h.lt,cell_of_row _ _ 0 _ _ _ h,cell_of_row _ _ 1 _ _ _ h,cell_of_row _ _ 2 _ _ _ h,cell_of_row _ _ 3 _ _ _ h,fun j=>frozen_of_row _ _ j _ _ h⟩
theorem bd.new (w:World) (r:ByteArray) (v:Value) (log:ByteArray) (syn:Int):bd (w.alloc (.cells #[.string r,v,.string log,.int .i64 syn] 25)) w.heap.size r v log syn:=heap_alloc_new w _
theorem Yq {w u:World} {p:Nat} {a b c d:Value}(h:Below w.heap.size w u) (e:w.heap.size<=p):Below w.heap.size w ((((u.setCell ⟨p,0,none⟩ a).setCell ⟨p,1,none⟩ b).setCell ⟨p,2,none⟩ c).setCell ⟨p,3,none⟩ d) :=
 (((h.setCell (p:=⟨p,0,none⟩) e _).setCell (p:=⟨p,1,none⟩) e _).setCell (p:=⟨p,2,none⟩) e _).setCell (p:=⟨p,3,none⟩) e _
theorem Wt (w:World) (g k:Nat) (u:Value):w.grownBy (w.setCell ⟨g,k,none⟩ u) (some g) :=
 ⟨rfl,rfl,rfl,by simp,fun i _ hn=>heap_setCell_other _ ⟨g,k,none⟩ i _ (fun e=>hn (by rw[e]))⟩
theorem Ys (u:World) (p:Nat) (a b c d:Value):u.grownBy ((((u.setCell ⟨p,0,none⟩ a).setCell ⟨p,1,none⟩ b).setCell ⟨p,2,none⟩ c).setCell ⟨p,3,none⟩ d) (some p) :=
 (((Wt u p 0 a).trans (Wt _ p 1 b)).trans (Wt _ p 2 c)).trans (Wt _ p 3 d)
theorem To {w:World} {B p:Nat} {v:Value} {ss:List ByteArray} {r:ByteArray} {x:Value} {log:ByteArray} {syn:Int}(h:aj w B v ss) (a:bd w p r x log syn):v.ownBlock=none\/v.ownBlock≠some p:=by
 rcases h.2 with ⟨rfl,_⟩|⟨g,d,f,rfl,_,c,_⟩
 .exact .inl rfl
 .refine .inr fun e=>?_
  have b:g=p:=Option.some.inj e;subst b;unfold bd at a;rw[c]at a;injection a with q1;injection q1 with _ q2;exact absurd q2 (by decide)
theorem mg {u:World} {B a:Nat} {v:Value} {ss:List ByteArray}(h:aj u a v ss) (e:B<=a):aj u B v ss:=by
 refine⟨h.1,?_⟩;rcases h.2 with d|⟨g,b,c,q1,q2,q3⟩
 .exact .inl d
 .exact .inr ⟨g,b,c,q1,Nat.le_trans e q2,q3⟩
def b92 (W:World) (B:Nat) (ss:List ByteArray) (v i:Value) (wr:World):Prop :=
 ∃ k:Nat,k<=ss.length/\i=.int .i64 (k:Int)/\aj wr B v (ss.take k)/\Below W.heap.size W wr
theorem Z1 {ss:List ByteArray} {k:Nat} {s:ByteArray}(h:ss[k]? = some s):ss.take (k+1)=ss.take k++[s]:=by rw[List.take_add_one,h];rfl
theorem Nt {w:World} {B:Nat} {vp:Value} {ss:List ByteArray}(r log:ByteArray) (syn:Int) (b:aj w B vp ss) (hz:∀ s ∈ ss,s.size<=1048576) (hl:ss.length<=1048576) (hr:r.size<=1048576) (ab:log.size<=1048576) :
  Calls prog 88 #[.agg #[.string r,vp,.string log,.int .i64 syn]] w fun e w'=>∃ v',e=.returned (.agg #[.string r,v',.string log,.int .i64 syn])/\aj w' w.heap.size v' ss/\Below w.heap.size w w':=by
 obtain⟨a,c,rfl,hq⟩:=iw b;obtain⟨i1,hi1,ad,ae,af⟩:=info_parts Dx;obtain⟨W,l⟩:∃ W,W=(w.alloc (.cells #[.string r,.slice a ss.length c,.string log,.int .i64 syn] 25)).alloc (.cells #[.string ⟨#[]⟩,.slice none 0 0,.string ⟨#[]⟩,.int .i64 0] 25):=⟨_,rfl⟩
 have H:Below w.heap.size w W:=by rw[l];exact (bY _).alloc (by simp) _
 have al:W.heap.size=w.heap.size+2:=by rw[l];simp
 have I:bd W w.heap.size r (.slice a ss.length c) log syn:=by
  show _=_
  rw[l,Below.heap_alloc _ _ _ (by simp)];exact heap_alloc_new w _
 have R:bd W (w.heap.size+1) ⟨#[]⟩ (.slice none 0 0) ⟨#[]⟩ 0:=by
  have h:=heap_alloc_new (w.alloc (.cells #[.string r,.slice a ss.length c,.string log,.int .i64 syn] 25)) (.cells #[.string ⟨#[]⟩,.slice none 0 0,.string ⟨#[]⟩,.int .i64 0] 25);rw[World.size_alloc]at h;show _=_
  rw[l];exact h
 have a4:=hZ I;have a6:=hZ R;have O:=hZ H;have HQ:Hid (∀ (j:Nat) (s:ByteArray),ss[j]? = some s->∃ g,a=some ⟨g,0,none⟩/\∀ w',Below W.heap.size W w'->∀ (j:Nat) (s:ByteArray),ss[j]? = some s->w'.cell? ⟨g,j,none⟩=some (.string s)):=fun j s d=>by
  obtain⟨g,h1,h2⟩:=hq j s d;exact⟨g,h1,fun w' hw'=>h2 w' (H.trans (hw'.mono (by omega)))⟩
 have K:Hid (∀ (s:ByteArray) (u:World),s.size<=1048576->Calls prog 123 #[.string s] u fun e w'=>e=.returned (.string s)/\Below u.heap.size u w'):=fun s u d=>ux s u d
 have HZ:=hZ hz;have HW:=hZ l;obtain⟨p1,Y,Z,a0,a1,a2⟩:=I.facts;clear b hq hz I R H l;go_enter func88,ntmps88;go_wp2_with fail;rw[<- HW.out];clear HW;go_wp2_with fail;go_loopw [3,9] (fun v i wr=>b92 W W.heap.size ss v i wr) (fun _ i _=>ss.length-(intOf i).toNat)
 case atStart=>exact⟨0,Nat.zero_le _,rfl,World.ownsRow_nil _ _ _ _,bX⟩
 case round =>
  clear p1 Y Z a0 a1 a2;obtain⟨k,hk,rfl,b,N⟩:=hrel;have z:=hZ b;have f:=hZ N;have ah:=N.size;clear b N;by_cases U:k<ss.length
  .obtain⟨s,d⟩:∃ s,ss[k]? = some s:=by exact⟨_,List.getElem?_eq_getElem U⟩
   obtain⟨g,rfl,S⟩:=HQ.out k s d;have e0:=S wr f.out k s d;have aa:=ag e0;have ai:(k:Int)<(ss.length:Int):=by omega
   have C:=K.out s wr (HZ.out s (List.mem_of_getElem? d));have HT:Hid (ss.take (k+1)=ss.take k++[s]):=Z1 d;have V:(ss.take k).length=k:=by rw[List.length_take];omega
   clear S d;go_wp2_with fail;refine C.mono ?_;rintro e w2 ⟨rfl,L⟩;have P:=hZ (z.out.below L);have t:=hZ (f.out.trans (L.mono f.out.size));have ak:=t.out.size;have M:=(Below.refl w2.heap.size w2).alloc bR (.cells #[.string s] 9);have n:=P.out.below M;have Q:=hZ n;have F:=hZ (t.out.trans (M.mono t.out.size));unfold aj at n;rw[V]at n;clear C L M z f e0 aa P t
   go_wp2_with (at_builtin;refine wpList_append_own _ rfl _ _ 23 rfl W.heap.size 9 i1 (.string ⟨#[]⟩) 1 16 underlying23 hi1 ad ae af rfl (by decide) _ _ _ rfl n ⟨_,0,none⟩ 1 1 [.string s] rfl rfl (cell_one_new _ _ _) (fun x hx=>by simp at hx;subst hx;rfl) (by unfold maxLen;omega) (by omega) (by simp;omega) ?_;intro v4 w4 X T _)
   have a8:Hid (aj w4 W.heap.size v4 (ss.take k++[s])):=aj.snoc (by rw[V];exact X);have a3:Hid (Below W.heap.size W w4):=Below.grown F.out T F.out.size (fun j hj=>(World.ownsRow.lt Q.out j hj).1);clear X T Q F n;go_wp2;exact⟨⟨k+1,by omega,by go_num,by rw[HT.out];exact a8.out,a3.out⟩,by simp[intOf];omega⟩
  .obtain rfl:k=ss.length:=by omega
   have b:=z.out;rw[List.take_length]at b;obtain⟨A,D,ac,_⟩:=iw b;subst ac;have a9:=hZ b;have G:=hZ (a4.out.below f.out);have y:=hZ (a6.out.below f.out);obtain⟨p1,Y,Z,a0,a1,a2⟩:=G.out.facts;obtain⟨q1,am,an,ao,ap,aq⟩:=y.out.facts;have CR:=fun u=>K.out r u hr
   have CL:=fun u=>K.out log u ab
   clear b z U hk;go_wp2_with fail;go_region_law (first
    | (go_simp;go_at_call 123;refine (CR _).mono ?_;rintro e w5 ⟨rfl,o⟩;have E:Below wr.heap.size wr w5:=⟨o.os,o.tape,o.output,o.size,o.block⟩;obtain⟨r1,ar,au,aw,ax,ay⟩:=(G.out.below E).facts;obtain⟨s1,az,aA,aB,aC,aD⟩:=(y.out.below E).facts)
    | (go_simp;go_at_call 123;refine (CL _).mono ?_;rintro e w6 ⟨rfl,p⟩;have z6:Below w5.heap.size w5 w6:=⟨p.os,p.tape,p.output,p.size,p.block⟩;have q:Below wr.heap.size wr w6:=E.trans (z6.mono E.size);obtain⟨t1,aE,aF,aG,aH,aI⟩:=(G.out.below q).facts;obtain⟨v1,aJ,aK,aL,aM,aN⟩:=(y.out.below q).facts))
   all_goals
    have J:=a9.out.below q;have a7:Hid (aj ((((w6.setCell ⟨w.heap.size+1,0,none⟩ (.string r)).setCell ⟨w.heap.size+1,1,none⟩ (.slice A ss.length D)).setCell ⟨w.heap.size+1,2,none⟩ (.string log)).setCell ⟨w.heap.size+1,3,none⟩ (.int .i64 syn)) w.heap.size (.slice A ss.length D) ss):=mg (World.ownsRow.kept J (Ys w6 (w.heap.size+1) _ _ _ _) (To J (y.out.below q))) (by omega);have m:Hid (Below w.heap.size w ((((w6.setCell ⟨w.heap.size+1,0,none⟩ (.string r)).setCell ⟨w.heap.size+1,1,none⟩ (.slice A ss.length D)).setCell ⟨w.heap.size+1,2,none⟩ (.string log)).setCell ⟨w.heap.size+1,3,none⟩ (.int .i64 syn))):=Yq (O.out.trans ((f.out.trans (q.mono f.out.size)).mono O.out.size)) (by omega);clear J;go_wp2
    refine bodyPost_ret (v:=.agg #[.string r,.slice A ss.length D,.string log,.int .i64 syn]) ?_ rfl ⟨_,rfl,a7.out,⟨m.out.os,m.out.tape,m.out.output,m.out.size,m.out.block⟩⟩;rw[av rfl];go_simp
theorem Tn {w:World} {a:Option Addr} {l:List Rw} {c:Nat}(f:d8 w a l) (m:da l=true) (hl:l.length<=c) (hc:c<=9223372036854775807) :
  Calls prog 36 #[.slice a l.length c] w fun e w'=>∃ v,e=.returned (.tuple #[v,.bool (xg (scF [] l)).isSome])/\(∀ gs,scF [] l=some gs->aj w' w.heap.size v (gs.map pgT))/\Below w.heap.size w w':=by
 have K:=Qj f m hl hc;obtain⟨i0,hi0,ai,ak,al⟩:=info_parts Dx;obtain⟨ok,T⟩:∃ ok,Hid ((xg (scF [] l)).isSome=ok):=⟨_,rfl⟩
 rw[T.out]at K ⊢;obtain⟨gs,t⟩:∃ gs,Hid ((scF [] l).getD []=gs):=⟨_,rfl⟩
 have a6:Hid (∀ g ∈ gs,RwB g):=by
  rw[<- t.out]
  cases h:scF [] l with
  | none=>exact fun g m=>by simp at m
  | some r=>exact b14 m h
 have a5:Hid (gs.length<=60):=by
  rw[<- t.out]
  cases h:scF [] l with
  | none=>exact Nat.zero_le _
  | some r =>
   have hf:=I9 l [] r h;have s:∀ (H:List Rw) (out q:List (List Rw)),(∀ p ∈ out,0<p.length)->scF out H=some q->∀ p ∈ q,0<p.length:=by
    intro H;induction H with
    | nil =>
     intro out q G h;have h':some out=some q:=h
     cases h'
     exact G
    | cons x H ih =>
     intro out q G h;by_cases E:300<lnP [x]
     .rw[ze E]at h;cases h
     .cases hgl:out.getLast? with
      | none =>
       obtain rfl:out=[]:=List.getLast?_eq_none_iff.1 hgl;rw[zy E]at h;exact ih _ _ (fun p s=>by simp at s;subst s;simp) h
      | some p =>
       obtain⟨o,rfl⟩:∃ o,out=o++[p]:=List.getLast?_eq_some_iff.1 hgl
       by_cases F:lnP (p++[x])<=300
       .rw[zf E F]at h
        refine ih _ _ (fun y d=>?_) h;rcases List.mem_append.1 d with d|d
        .exact G y (List.mem_append_left _ d)
        .simp at d;rw[d];simp
       .rw[Bh E F]at h
        refine ih _ _ (fun y d=>?_) h;rcases List.mem_append.1 d with d|d
        .exact G y d
        .simp at d;rw[d];simp
   have aa:=mc m;have N:=Od (out:=r) (l:=l) (k:=l.length) (by rw[hf];simp) (s l [] r (fun p s=>by simp at s) h);show r.length<=60
   omega
 have S:Hid (∀ (u:World) (O:Nat) (v:Value),(∀ gs,scF [] l=some gs->∃ vs,az u O u.heap.size v gs vs)->(scF [] l=none->v=.slice none 0 0)->BkV u v gs):=fun u O v F h2=>by
  rw[<- t.out]
  cases h:scF [] l with
  | none=>rw[h2 h];exact (az.nil u O).bk
  | some r=>obtain⟨vs,q⟩:=F r h;exact q.bk
 have a0:Hid (∀ gs',scF [] l=some gs'->gs'=gs):=fun gs' h=>by rw[<- t.out,h];rfl
 clear f m t T;generalize scF [] l=sc at *;have aa:=a5.out;go_enter func36,ntmps36;go_wp2_with fail;refine K.mono ?_;rintro e n ⟨v1,rfl,P,Q,Z⟩;have V1:=S.out n _ v1 P Q;obtain⟨a1,c1,rfl,_⟩:=V1;have HV:Hid (BkV n (.slice a1 gs.length c1) gs):=S.out n _ _ P Q;have I:=hZ Z;clear K P Q Z;go_wp2_with fail;go_loopw [6,16] (fun v i wr=>as6 n gs pgT (fun _=>true) v i wr) (fun _ i _=>gs.length-(intOf i).toNat)
 case atStart=>exact⟨0,Nat.zero_le _,rfl,World.ownsRow_nil _ _ _ _,fun j g hj _=>rfl,bX⟩
 case round =>
  obtain⟨k,hk,rfl,f,_,A⟩:=hrel;by_cases ad:k<gs.length
  .obtain⟨g,m⟩:∃ g,gs[k]? = some g:=⟨_,List.getElem?_eq_getElem ad⟩
   obtain⟨a',c',af,N⟩:=HV.out.below A bR;injection af with q1 _ q3;subst q1;subst q3;obtain⟨b,o,ax,cx,rfl,d1,W⟩:=N k g m;have am:=ag d1;have an:(k:Int)<(gs.length:Int):=by omega
   have Y:Calls prog 81 #[.slice ax g.length cx] wr fun e w'=>e=.returned (.string (pgT g))/\Below wr.heap.size wr w':=sw (cap:=cx) W (a6.out g (List.mem_of_getElem? m))
   have X:Hid ((gs.take (k+1)).map pgT=(gs.take k).map pgT++[pgT g]):=Da pgT m;have a2:((gs.take k).map pgT).length<=60:=by simp;omega
   obtain⟨R,a8⟩:∃ R,Hid ((gs.take k).map pgT=R):=⟨_,rfl⟩
   rw[a8.out]at X a2 f;obtain⟨a4,c4,ah⟩:=gj f;subst ah;have D:=hZ f;have z:=hZ A;clear N W m f A;generalize pgT g=pg at *;go_wp2_with fail;refine Y.mono ?_;rintro e w2 ⟨rfl,L⟩;have B:=hZ (z.out.trans (L.mono z.out.size));have M:=(Below.refl w2.heap.size w2).alloc bR (.cells #[.string pg] 9);have C:=(D.out.below L).below M;have J:Hid (Below n.heap.size n _):=B.out.trans (M.mono B.out.size);have ao:=B.out.size;unfold aj at C;clear Y L D z M
   go_wp2_with (at_builtin;refine wpList_append_lies _ rfl _ _ 23 rfl n.heap.size 9 i0 _ 1 16 underlying23 hi0 ai ak al rfl (by decide) _ _ _ rfl C ⟨_,0,none⟩ 1 1 [.string pg] rfl rfl (cell_one_new _ _ _) (fun x hx=>by simp at hx;subst hx;rfl) (by omega) (by unfold maxLen;omega) (by omega) (by simp;omega) _ rfl ?_)
   intro g5 c5 u5 V U ab ae;have a7:Hid (aj u5 n.heap.size (.slice (some ⟨g5,0,none⟩) (R.length+1) c5) ((gs.take (k+1)).map pgT)):=by rw[X.out];exact aj.snoc V
   have a3:Hid (Below n.heap.size n u5):=Below.grown J.out U J.out.size (fun i hj=>(World.ownsRow.lt C i hj).1);clear V U C B J;go_wp2;exact⟨⟨k+1,by omega,by go_num,a7.out,fun j g hj _=>rfl,a3.out⟩,by simp[intOf];omega⟩
  .have ac:k=gs.length:=by omega
   subst ac;rw[List.take_length]at f;have D:Hid (aj wr w.heap.size u6 (gs.map pgT)):=by
    refine⟨f.1,?_⟩;rcases f.2 with h|⟨g,cap,a9,q1,q2,q3⟩
    .exact .inl h
    .exact .inr ⟨g,cap,a9,q1,Nat.le_trans I.out.size q2,q3⟩
   have z:=hZ (I.out.trans (A.mono I.out.size));clear f A;go_wp2;go_ret2;exact⟨_,rfl,fun gs' h=>by rw[a0.out gs' h];exact D.out,z.out⟩
theorem Xa {w:World} {a:Option Addr} {l:List Rw} {c:Nat}(t:d8 w a l) (F:l.length<=c) (E:c<=9223372036854775807) (C:l.length<=1048576) :
  Calls prog 111 #[.slice a l.length c] w fun e w'=>∃ v,e=.returned (.tuple #[v,.bool (l8 l).isSome])/\aj w' w.heap.size v ((l8 l).getD [])/\Below w.heap.size w w':=by
 have b:=Su t F E C;clear t
 cases hcut:ni l with
 | none =>
  rw[ul hcut];rw[hcut]at b;clear hcut;go_enter func111,ntmps111;go_wp2_with fail;refine b.mono ?_;rintro e I ⟨G,rfl,_,_,d⟩;clear b;go_wp2;go_ret2;exact⟨_,rfl,World.ownsRow_nil _ _ _ _,d⟩
 | some gs =>
  rw[um hcut];obtain⟨B,i⟩:=Kf hcut;rw[hcut]at b;have p:Hid (Ac gs=some (gs.map pbT)):=Nq B (fun j g hg=>i g (List.mem_of_getElem? hg));have D:Hid (∀ g ∈ gs,g.length<=1048576):=fun g hg=>by
   have m:=i g hg;unfold ip at m;simp only[Bool.and_eq_true]at m;have:=mc m.1.2;omega
  obtain⟨n,q⟩:∃ n,Hid (gs.map pbT=n):=⟨_,rfl⟩
  rw[q.out]at p ⊢;clear hcut i q;go_enter func111,ntmps111;go_wp2_with fail;refine b.mono ?_;rintro e I ⟨G,rfl,u,_,d⟩;obtain⟨K,r⟩:=u gs rfl;have k:=Zp r.bk (by omega) D.out;rw[p.out]at k;have f:=hZ d;clear b u r d;go_wp2_with fail;refine k.mono ?_;rintro e J ⟨H,rfl,o,s⟩;have y:Hid (aj J w.heap.size H n):=by
   refine⟨o.1,?_⟩;rcases o.2 with h|⟨g,z,A,q1,q2,q3⟩
   .exact .inl h
   .exact .inr ⟨g,z,A,q1,Nat.le_trans f.out.size q2,q3⟩
  have x:=hZ (f.out.trans (s.mono f.out.size));clear k o s;go_wp2;go_ret2;exact⟨_,rfl,y.out,x.out⟩
end Go.Proofs.YtjbmgghehdemdaaGreatDoor
