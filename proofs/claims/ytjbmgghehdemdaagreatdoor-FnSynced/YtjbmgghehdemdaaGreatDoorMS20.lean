/- IBytes6 -/
import Derived.Test.YtjbmgghehdemdaaGreatDoorMS17
import Derived.Maps.AppendAt
import Derived.Test.YtjbmgghehdemdaaGreatDoorMS19
import Derived.ProofKit
import Derived.LaidMore
import Derived.Deep.Strs
import Derived.Deep.Slices
namespace Go.Proofs.YtjbmgghehdemdaaGreatDoor
set_option maxRecDepth 100000
set_option maxHeartbeats 16000000
open _root_.Go.Proofs.Tryz
open Go.RowKit
theorem E9:(prog.info? 9).map (fun i=>(i.zero,i.size,i.bytes))=some (some (.string ⟨#[]⟩),1,16):=by kernel_rfl
theorem eu {w:World} {B:Nat} {v:Value} {ss:List ByteArray}(h:ah w B v ss):∃ a c,v=.slice a ss.length c:=by
 rcases h.form with ⟨rfl,rfl⟩|⟨g,b,rfl,_,_⟩
 .exact⟨_,_,rfl⟩
 .exact⟨_,_,rfl⟩
def as7 (w:World) (gs:List (List Rw)) (f:List Rw->ByteArray) (ok:List Rw->Bool) (v i:Value) (wr:World):Prop :=
 ∃ k:Nat,k<=gs.length/\i=.int .i64 (k:Int)/\ah wr w.heap.size v ((gs.take k).map f)/\(∀ (j:Nat) (g:List Rw),j<k->gs[j]? = some g->ok g=true)/\Below w.heap.size w wr
theorem Dg {gs:List (List Rw)} {k:Nat} {g:List Rw}(f:List Rw->ByteArray) (h:gs[k]? = some g):(gs.take (k+1)).map f=(gs.take k).map f++[f g]:=by
 rw[List.take_add_one,h];simp
theorem Zy {w:World} {v:Value} {gs:List (List Rw)}(hV:BkV w v gs) (hl:gs.length<=1048576) (L:∀ g ∈ gs,g.length<=1048576) :
  Calls prog 140 #[v] w fun e w'=>∃ v',e=.returned (.tuple #[v',.bool (Ak gs).isSome])/\ah w' w.heap.size v' ((Ak gs).getD [])/\Below w.heap.size w w':=by
 obtain⟨a,c,rfl,d⟩:=hV;obtain⟨R,u⟩:∃ R,Hid (Ak gs=R):=⟨_,rfl⟩
 rw[u.out];by_cases E:gs.length<=40
 .have Z:¬ (40:Int)<(gs.length:Int):=by omega
  have HQ:Hid _:=d;have HZ:=hZ L;have HV:Hid (BkV w (.slice a gs.length c) gs):=⟨a,c,rfl,d⟩;obtain⟨i0,hi0,W,X,Y⟩:=info_parts E9;clear d L;go_enter func140,ntmps140;go_wp2_with fail;go_loopw [4,14] (fun v i wr=>as7 w gs pbT io v i wr) (fun _ i _=>gs.length-(intOf i).toNat)
  case atStart=>exact⟨0,Nat.zero_le _,rfl,World.ownsRow_nil _ _ _ _,fun j g hj=>by omega,bX⟩
  case round =>
   obtain⟨k,hk,rfl,l,z,s⟩:=hrel;by_cases S:k<gs.length
   .obtain⟨g,f⟩:∃ g,gs[k]? = some g:=⟨_,List.getElem?_eq_getElem S⟩
    obtain⟨a',c',U,d⟩:=HV.out.below s bR;injection U with q1 _ q3;subst q1;subst q3;obtain⟨b,o,ax,cx,rfl,c1,H⟩:=d k g f;have a2:=ag c1;have a3:(k:Int)<(gs.length:Int):=by omega
    have n:=Jv (cap:=cx) H (HZ.out g (List.mem_of_getElem? f));have K:Hid ((gs.take (k+1)).map pbT=(gs.take k).map pbT++[pbT g]):=Dg pbT f;have I:=hZ f;have J:=hZ z;have T:((gs.take k).map pbT).length<=40:=by simp;omega
    obtain⟨C,P⟩:∃ C,Hid ((gs.take k).map pbT=C):=⟨_,rfl⟩
    rw[P.out]at K T l;obtain⟨a4,c4,V⟩:=eu l;subst V;have y:=hZ l;have h:=hZ s;clear d H f z l s
    cases hok:io g
    .rw[hok]at n
     have r:Hid (R=none):=by show _=_;rw[<- u.out];exact ag4 I.out hok
     clear hok;generalize pbT g=pg at *;go_wp2_with fail;refine n.mono ?_;rintro e D ⟨rfl,p⟩;have m:=hZ (h.out.trans (p.mono h.out.size));clear n p;go_wp2;go_ret2;rw[r.out];exact⟨_,rfl,World.ownsRow_nil _ _ _ _,m.out⟩
    .rw[hok]at n
     have N:Hid (∀ (j:Nat) (g:List Rw),j<k+1->gs[j]? = some g->io g=true):=fun j q hj d=>by
      by_cases e:j=k
      .rw[e,I.out]at d
       rw[<- Option.some.inj d];exact hok
      .exact J.out j q (by omega) d
     clear hok J;generalize pbT g=pg at *;go_wp2_with fail;refine n.mono ?_;rintro e D ⟨rfl,p⟩;have m:=hZ (h.out.trans (p.mono h.out.size));have B:=(Below.refl D.heap.size D).alloc bR (.cells #[.string pg] 9);have t:=(y.out.below p).below B;have A:Hid (Below w.heap.size w _):=m.out.trans (B.mono m.out.size);have a5:=m.out.size;unfold ah at t;clear n p y h B;go_wp2_with (at_builtin;refine wpList_append_lies _ rfl _ _ 23 rfl w.heap.size 9 i0 _ 1 16 underlying23 hi0 W X Y rfl (by decide) _ _ _ rfl t ⟨_,0,none⟩ 1 1 [.string pg] rfl rfl (cell_one_new _ _ _) (fun x hx=>by simp at hx;subst hx;rfl) (by omega) (by unfold maxLen;omega) (by omega) (by simp;omega) _ rfl ?_)
     intro g5 c5 u5 G F a0 a1;have O:Hid (ah u5 w.heap.size (.slice (some ⟨g5,0,none⟩) (C.length+1) c5) ((gs.take (k+1)).map pbT)):=by rw[K.out];exact ah.snoc G
     have M:Hid (Below w.heap.size w u5):=Below.grown A.out F A.out.size (fun i hj=>(World.ownsRow.lt t i hj).1);clear G F t m A;go_wp2;exact⟨⟨k+1,by omega,by go_num,O.out,N.out,M.out⟩,by simp[intOf];omega⟩
   .have Q:k=gs.length:=by omega
    subst Q;rw[List.take_length]at l;have r:Hid (R=some (gs.map pbT)):=by
     show _=_
     rw[<- u.out];exact O8 E (fun j g f=>z j g (List.getElem?_eq_some_iff.1 f).1 f)
    have y:Hid (ah wr w.heap.size _ (gs.map pbT)):=l;have h:=hZ s;clear l z s;go_wp2;go_ret2;rw[r.out];exact⟨_,rfl,y.out,h.out⟩
 .have Z:(40:Int)<(gs.length:Int):=by omega
  have r:Hid (R=none):=by show _=_;rw[<- u.out];exact Zx E
  clear d;go_enter func140,ntmps140;go_wp2;go_ret2;rw[r.out];exact⟨_,rfl,World.ownsRow_nil _ _ _ _,bX⟩
theorem Ql (l:List Rw):∀ v ∈ fe l,v.oneCell'=true:=by
 intro v a;simp only[fe,List.mem_flatMap]at a;obtain⟨x,_,b⟩:=a;simp[rwC]at b
 rcases b with rfl|rfl|rfl <;> rfl
theorem b94 {w:World} {b o:Nat} {l:List Rw}(h:∀ (k:Nat) (e:Rw),l[k]? = some e->w.cell? ⟨b,o+k*3,none⟩=some (.string e.key)/\w.cell? ⟨b,o+k*3+1,none⟩=some (.string e.text)/\w.cell? ⟨b,o+k*3+2,none⟩=some (.string e.val)) :
  ∀ j v,(fe l)[j]? = some v->w.cell? ((⟨b,o,none⟩:Addr).add j)=some v:=by
 intro j v a;have f:(⟨b,o,none⟩:Addr).add j=⟨b,o+j,none⟩:=by unfold Addr.add;split <;> simp_all
 rw[f];have p:=(List.getElem?_eq_some_iff.1 a).1;rw[o6]at p;obtain⟨k,i,rfl,d⟩:∃ k i,j=k*3+i/\i<3:=⟨j / 3,j % 3,by omega,by omega⟩
 obtain⟨e,c⟩:∃ e,l[k]? = some e:=⟨_,List.getElem?_eq_getElem (by omega)⟩
 rw[Ig l k i e c d]at a;obtain⟨g,m,n⟩:=h k e c;rw[show o+(k*3+i)=o+k*3+i by omega];match i,d with
 | 0,_=>simp[rwC]at a;subst a;exact g
 | 1,_=>simp[rwC]at a;subst a;exact m
 | 2,_=>simp[rwC]at a;subst a;exact n
structure CpS (w:World) (x:Rw) (l:List Rw) (bx g:Nat) (u:World):Prop where
 box:f9 u bx x
 row:Rws u w.heap.size (.slice (some ⟨g,0,none⟩) l.length l.length) l
 bel:Below w.heap.size w u
def CpA (w:World) (x:Rw) (l:List Rw) (bx g k:Nat) (u:World):Prop :=
 u.cell? ⟨bx,0,none⟩=some (.string x.key)/\u.cell? ⟨bx,1,none⟩=some (.string x.text)/\u.cell? ⟨bx,2,none⟩=some (.string x.val)/\u.cell? ⟨g,k*3,none⟩=some (.string x.key)/\u.cell? ⟨g,k*3+1,none⟩=some (.string x.text)/\u.cell? ⟨g,k*3+2,none⟩=some (.string x.val)/\u.frozen? ⟨g,k*3,none⟩=false/\u.frozen? ⟨g,k*3+1,none⟩=false/\u.frozen? ⟨g,k*3+2,none⟩=false/\bx<u.heap.size/\g<u.heap.size/\CpS w x l bx g u
theorem CpS.all {w:World} {x:Rw} {l:List Rw} {a g k:Nat} {u:World}(h:CpS w x l a g u) (j:l[k]? = some x):CpA w x l a g k u:=by
 obtain⟨b,c,d⟩:=h.box.cells;obtain⟨e,f,i⟩:=h.row.cells k x j;exact⟨b,c,d,e,f,i,World.ownsRow.frozenAt h.row _,World.ownsRow.frozenAt h.row _,World.ownsRow.frozenAt h.row _,h.box.lt,(World.ownsRow.lt h.row g rfl).2,h⟩
theorem CpS.below {w:World} {x:Rw} {l:List Rw} {b g:Nat} {u u':World}(h:CpS w x l b g u) (a:Below u.heap.size u u'):CpS w x l b g u' :=
 ⟨h.box.below a,h.row.below a,h.bel.trans (a.mono h.bel.size)⟩
theorem CpS.put {w:World} {x:Rw} {l:List Rw} {a g k:Nat} {u:World}(h:CpS w x l a g u) (n:l[k]? = some x) (o:a≠g) (c:w.heap.size<=g) :
  CpS w x l a g (((u.setCell ⟨g,k*3,none⟩ (.string x.key)).setCell ⟨g,k*3+1,none⟩ (.string x.text)).setCell ⟨g,k*3+2,none⟩ (.string x.val)):=by
 have q:=(List.getElem?_eq_some_iff.1 n).1;have d:=World.ownsRow.stored h.row (k*3) (.string x.key);have f:=World.ownsRow.stored d.1 (k*3+1) (.string x.text);have i:=World.ownsRow.stored f.1 (k*3+2) (.string x.val);have j:=i.1;rw[<- ab7 _ k x q]at j;have p:l.set k x=l:=by
  obtain⟨r,rfl⟩:=List.getElem?_eq_some_iff.1 n;simp
 rw[p]at j;have b:∀ {u m:World},f9 u a x->u.grownBy m (some g)->f9 m a x:=fun {u m} b hg=>(hg.block a b.lt (fun e=>o (Option.some.inj e))).trans b
 exact⟨b (b (b h.box d.2) f.2) i.2,j,Hr (Hr (Hr h.bel d.2 c) f.2 c) i.2 c⟩
def bb0 (w:World) (l:List Rw) (g:Nat) (i:Value) (wr:World):Prop :=
 ∃ k:Nat,k<=l.length/\i=.int .i64 (k:Int)/\Rws wr w.heap.size (.slice (some ⟨g,0,none⟩) l.length l.length) l/\Below w.heap.size w wr
theorem ak9:(prog.info? 37).map (fun i=>(i.zero,i.size,i.bytes))=some (some (.agg #[.string ⟨#[]⟩,.string ⟨#[]⟩,.string ⟨#[]⟩]),3,48):=by kernel_rfl
theorem aq5:(prog.info? 37).map (·.size)=some 3:=by kernel_rfl
theorem Oc {w:World} {a:Option Addr} {l:List Rw} {cap:Nat}(W:dc w a l) (h0:0<l.length) (F:RwB l) :
  Calls prog 162 #[.slice a l.length cap] w fun e w'=>∃ v,e=.returned v/\Rws w' w.heap.size v l/\Below w.heap.size w w':=by
 obtain⟨b,o,rfl,p⟩:∃ b o,a=some ⟨b,o,none⟩/\∀ (k:Nat) (e:Rw),l[k]? = some e->w.cell? ⟨b,o+k*3,none⟩=some (.string e.key)/\w.cell? ⟨b,o+k*3+1,none⟩=some (.string e.text)/\w.cell? ⟨b,o+k*3+2,none⟩=some (.string e.val):=by
  rcases W with h|h
  .rw[h]at h0;simp at h0
  .exact h
 have hl:=F.1;have J:Hid (∀ u,Below w.heap.size w u->∀ j v,(fe l)[j]? = some v->u.cell? ((⟨b,o,none⟩:Addr).add j)=some v):=fun u m=>by
  apply b94
  intro k e he;obtain⟨U,c1,c2⟩:=p k e he;have A:=ag U;exact⟨(m.cell A).trans U,(m.cell A).trans c1,(m.cell A).trans c2⟩
 have X:=hZ F;obtain⟨i0,hi,a3,a4,a5⟩:=info_parts ak9;have Z:=o6 l;clear p W F;go_enter func162,ntmps162;go_upto_region 2 with (at_make;refine wpList_make_full _ rfl _ _ 32 rfl w.heap.size 37 i0 _ 3 underlying32 hi a3 a4 .i64 .i64 _ _ l.length rfl rfl rfl rfl (by rw[a5];omega) (by unfold maxLen;omega) bR ?_;intro w1 P O)
 have K:Below w.heap.size w w1:=Below.grown bX O bR (fun j hj=>by cases hj);obtain⟨n,N,a6⟩:∃ n,w1.heap[w.heap.size]? = some (.cells n 37 (0,0))/\n.size=l.length*3:=by
  rcases P.2 with ⟨h,_⟩|⟨g,a0,n,h1,_,h3,_,_,h6,_⟩
  .cases h
  .cases h1
   exact⟨n,h3,h6⟩
 have z:Hid _:=N;have y:=hZ K;obtain⟨g,E⟩:∃ g,Hid (g=w.heap.size):=⟨_,rfl⟩
 have B:w.heap.size<=g:=Nat.le_of_eq E.out.symm;rw[<- E.out]at z;rw[<- E.out];clear P O N K;go_wp2_with (refine Im rfl _ _ 32 32 rfl 37 underlying32 3 aq5 g l.length _ ⟨b,o,none⟩ _ rfl rfl n 37 z.out (fe l) (o6 l) (J.out w1 y.out) (by omega) (Ql l) w.heap.size w y.out B ?_;intro w2 Q L)
 have f:Rws w2 w.heap.size (.slice (some ⟨g,0,none⟩) l.length l.length) l:=⟨o6 l,.inr ⟨g,l.length,_,rfl,B,Q.out,bR,by unfold maxLen;omega,by simp;omega,by simp[<- Z]⟩⟩;have I:Hid (Rws _ _ _ _):=f;have G:=hZ L;clear f L Q z y J;go_wp2_with fail;go_loopw [14] (fun i wr=>bb0 w l g i wr) (fun i _=>l.length-(intOf i).toNat)
 case atStart=>exact⟨0,Nat.zero_le _,rfl,I.out,G.out⟩
 case round =>
  clear I G;obtain⟨k,hk,rfl,f,q⟩:=hrel;by_cases a1:k<l.length
  .obtain⟨x,d⟩:∃ x,l[k]? = some x:=⟨_,List.getElem?_eq_getElem a1⟩
   have a8:(k:Int)<(l.length:Int):=by omega
   obtain⟨d0,d1,d2⟩:=f.cells k x d;have a7:=ag d0;obtain⟨z0,z1,z2⟩:=X.out.at d;have R:=fun u=>vu x.key u (by omega)
   have S:=fun u=>vu x.text u (by omega)
   have T:=fun u=>vu x.val u (by omega)
   have V:=(Below.refl wr.heap.size wr).alloc bR (.cells #[.string x.key,.string x.text,.string x.val] 37);have D:CpS w x l wr.heap.size g (wr.alloc (.cells #[.string x.key,.string x.text,.string x.val] 37)):=⟨o7 wr x,f.below V,q.alloc q.size _⟩;have a2:wr.heap.size≠g:=by omega
   have C:=D.all d;have r:=(D.below (bX.drew)).all d;have s:=fun (u1 u2:World) (q:Below u1.heap.size u1 u2) (m:CpA w x l wr.heap.size g k u1)=>(m.2.2.2.2.2.2.2.2.2.2.2.below q).all d
   have t:=fun (u1:World) (m:CpA w x l wr.heap.size g k u1)=>(m.2.2.2.2.2.2.2.2.2.2.2.put (k:=k) d a2 B).all d
   obtain⟨c,H⟩:∃ c,Hid (c=wr.heap.size):=⟨_,rfl⟩
   rw[<- H.out]at C r s t;unfold CpA at C r s t;clear f q D V d;go_wp2_with fail;rw[<- H.out];go_region_held (fun u=>u.cell? ⟨c,0,none⟩=some (.string x.key)/\u.cell? ⟨c,1,none⟩=some (.string x.text)/\u.cell? ⟨c,2,none⟩=some (.string x.val)/\u.cell? ⟨g,k*3,none⟩=some (.string x.key)/\u.cell? ⟨g,k*3+1,none⟩=some (.string x.text)/\u.cell? ⟨g,k*3+2,none⟩=some (.string x.val)/\u.frozen? ⟨g,k*3,none⟩=false/\u.frozen? ⟨g,k*3+1,none⟩=false/\u.frozen? ⟨g,k*3+2,none⟩=false/\c<u.heap.size/\g<u.heap.size/\CpS w x l c g u)
    (first|exact r|exact s _ _ (by assumption) (by assumption)|exact t _ (by assumption))
    (first|(go_at_call 123;refine (R _).mono ?_;rintro e w' ⟨rfl,M⟩)|(go_at_call 123;refine (S _).mono ?_;rintro e w' ⟨rfl,M⟩)|(go_at_call 123;refine (T _).mono ?_;rintro e w' ⟨rfl,M⟩))
   all_goals
    have p:CpA w x l c g k (((w'.setCell ⟨g,k*3,none⟩ (.string x.key)).setCell ⟨g,k*3+1,none⟩ (.string x.text)).setCell ⟨g,k*3+2,none⟩ (.string x.val)):=by assumption
    have HR:Hid (Rws _ _ _ _):=p.2.2.2.2.2.2.2.2.2.2.2.row;have HB:Hid _:=p.2.2.2.2.2.2.2.2.2.2.2.bel;clear p C r s t R S T;go_wp2;exact⟨⟨k+1,by omega,by go_num,HR.out,HB.out⟩,by simp[intOf];omega⟩
  .have Y:k=l.length:=by omega
   subst Y;go_wp2;go_ret;exact⟨_,rfl,f,q⟩
def al4:Value->Nat
 | .slice _ n _=>n
 | _=>0
def bb3 (w:World) (R:Option (List (List Rw))) (v0 v4:Value) (wr:World):Prop :=
 ∃ (l:List Rw) (acc:List (List Rw)) (vs:List Value) (hi:Nat) (al:Option Addr) (cl:Nat),v0=.slice al l.length cl/\l.length<=cl/\cl<=9223372036854775807/\dc w al l/\da l=true/\bg wr w.heap.size hi v4 acc vs/\acc.length<=40/\qm acc l=R/\Below w.heap.size w wr
theorem T1 {w:World} {a:Option Addr} {l:List Rw} {c:Nat}(y:dc w a l) (hl:l.length<=c) (hc:c<=9223372036854775807) (aw:l.length<=1048576) :
  Calls prog 139 #[.slice a l.length c] w fun e w'=>∃ v,e=.returned (.tuple #[v,.bool (nl l).isSome])/\(∀ gs,nl l=some gs->∃ vs,bg w' w.heap.size w'.heap.size v gs vs)/\(nl l=none->v=.slice none 0 0)/\Below w.heap.size w w':=by
 have J:=Ju (cap:=c) y (by omega)
 cases g:da l
 .have HA:Hid (nl l=none):=by show _=_;unfold nl;rw[if_neg (by rw[g];decide)]
  rw[g]at J;rw[HA.out];clear y g;go_enter func139,ntmps139;go_wp2_with fail;refine J.mono ?_;rintro e w1 ⟨rfl,Z⟩;clear J;go_wp2;go_ret2;exact⟨_,rfl,fun gs h=>(by cases h),fun _=>rfl,Z⟩
 .obtain⟨R,HR⟩:∃ R,Hid (nl l=R):=⟨_,rfl⟩
  have C:Hid (qm [] l=R):=by show _=_;rw[<- HR.out];unfold nl;rw[if_pos g]
  rw[g]at J;rw[HR.out];obtain⟨i1,hi1,af,ag,ah⟩:=info_parts Co;have L:=hZ y;have K:=hZ g;clear y g;go_enter func139,ntmps139;go_wp2_with fail;refine J.mono ?_;rintro e w1 ⟨rfl,Z⟩;have a9:=hZ Z;clear J Z;go_wp2_with fail;go_loopw [0,4] (fun v0 v4 wr=>bb3 w R v0 v4 wr) (fun v0 _ _=>al4 v0)
  case atStart=>exact⟨l,[],[],_,a,c,rfl,hl,hc,L.out,K.out,bg.nil w1 _,by simp,C.out,a9.out⟩
  case round =>
   clear L K C a9 hl hc HR;obtain⟨l,m,vs,hi,al,r,rfl,hl,hc,y,g,V,ha,hF,W⟩:=hrel;by_cases M:l.length=0
   .have N:Hid (R=some m):=by show _=_;rw[<- hF,yr M]
    have D:Hid (bg wr w.heap.size hi _ m vs):=V;have j:=hZ W;have ak:¬ (0:Int)<(l.length:Int):=by omega
    clear V W y hF g;go_wp2;go_ret2;rw[N.out];exact⟨_,rfl,fun gs h=>by obtain rfl:=Option.some.inj h;exact⟨_,D.out.high D.out.top bR⟩,fun h=>(by cases h),j.out⟩
   .have ak:(0:Int)<(l.length:Int):=by omega
    have a5:=ph g;have au:=mj g;have t:=Zb (cap:=r) 300 (y.below W bR) a5 (by omega);obtain⟨q1,q2,q3⟩:=Zc l 300;have L:=hZ y;have K:=hZ g;have D:=hZ V;have C:=hZ hF;have j:=hZ W;have ai:=hZ a5;obtain⟨n,Y⟩:∃ n,Hid (wn l 300=n):=⟨_,rfl⟩
    rw[Y.out]at t q1;obtain⟨a4,c4,ar,_⟩:=V.form;subst ar;clear y g V hF W a5 q2 q3;by_cases a8:n=0
    .have N:Hid (R=none):=by show _=_;rw[<- C.out];exact yb M (.inl (by rw[Y.out];exact a8))
     subst a8;go_wp2_with fail;refine t.mono ?_;rintro e s ⟨rfl,f⟩;have d:=hZ (j.out.trans (f.mono j.out.size));clear t f;go_wp2;go_ret2;rw[N.out];exact⟨_,rfl,fun gs h=>(by cases h),fun _=>rfl,d.out⟩
    .have ay:¬ (n:Int)=0:=by omega
     by_cases a3:m.length=40
     .have N:Hid (R=none):=by show _=_;rw[<- C.out];exact yb M (.inr a3)
      have am:(m.length:Int)=40:=by omega
      clear a3;go_wp2_with fail;refine t.mono ?_;rintro e s ⟨rfl,f⟩;have d:=hZ (j.out.trans (f.mono j.out.size));clear t f;go_wp2;go_ret2;rw[N.out];exact⟨_,rfl,fun gs h=>(by cases h),fun _=>rfl,d.out⟩
     .have am:¬ (m.length:Int)=40:=by omega
      have aa:Hid (qm (m++[l.take n]) (l.drop n)=R):=by show _=_;rw[<- C.out,Hl M (by rw[Y.out];exact a8) a3,Y.out]
      have ae:(l.take n).length=n:=by rw[List.length_take];omega
      have ad:(l.drop n).length=l.length-n:=List.length_drop;have aj:Hid (RwB (l.take n)):=ph (Jn K.out n);have ab:Hid (da (l.drop n)=true):=Jl K.out n;have I:=hZ ae;have X:=hZ ad;clear ae ad;obtain⟨b,o,rfl⟩:∃ b o,al=some ⟨b,o,none⟩:=by
       rcases L.out with h|⟨b,o,h,_⟩
       .rw[h]at M;simp at M
       .exact⟨b,o,h⟩
      have CP:Hid (∀ u,Below w.heap.size w u->Calls prog 162 #[.slice (some ⟨b,o,none⟩) n n] u fun e w'=>∃ v,e=.returned v/\Rws w' u.heap.size v (l.take n)/\Below u.heap.size u w'):=fun u hu=>by
       have:=Oc (cap:=n) ((L.out.below hu bR).take n) (by rw[I.out];omega) aj.out;rw[I.out]at this;exact this
      have ax:n<=l.length:=q1;have ao:(n:Int)<=(r:Int):=by omega
      have az:((n:Int) == 0)=false:=by simp;omega
      have av:((m.length:Int) == 40)=false:=by simp;omega
      have ap:(n:Int)<=(l.length:Int):=by omega
      clear C K ai;by_cases ac:r=n
      .have a2:Hid (dc w (some ⟨b,o,none⟩) (l.drop n)):=.inl (List.drop_eq_nil_of_le (by omega))
       subst ac;go_wp2_with fail;refine t.mono ?_;rintro e s ⟨rfl,f⟩;have d:=hZ (j.out.trans (f.mono j.out.size));have z:Hid (bg s w.heap.size hi _ m vs):=D.out.below f;have S:=CP.out s d.out;clear t f j D;go_wp2_with fail;refine S.mono ?_;rintro e H ⟨v3,rfl,G,p⟩;obtain⟨F,E,Q,_⟩:=Ey G (by rw[I.out];omega);rw[I.out]at Q;subst Q;have k:=hZ (d.out.trans (p.mono d.out.size));have q:=(Below.refl H.heap.size H).alloc bR (.cells #[.slice (some ⟨F,0,none⟩) r E] 32);have B:=((z.out.below p).below q).row;have T:Hid (Below s.heap.size s (H.alloc (.cells #[.slice (some ⟨F,0,none⟩) r E] 32))):=p.alloc p.size _;have O:=hZ (G.below q)
       have aq:=k.out.size;clear S p G;go_wp2_with (at_builtin;refine wpList_append_lies _ rfl _ _ 132 rfl w.heap.size 32 i1 (.slice none 0 0) 1 24 underlying132 hi1 af ag ah rfl (by decide) _ _ _ rfl B ⟨_,0,none⟩ 1 1 [.slice (some ⟨F,0,none⟩) r E] rfl rfl (cell_one_new _ _ _) (fun x hx=>by simp at hx;subst hx;rfl) (by omega) (by unfold maxLen;omega) (by omega) (by simp;omega) _ rfl ?_)
       intro g5 c5 u5 P A a6 a7;have U:=z.out.push d.out.size T.out O.out A P;have a0:Hid (Below w.heap.size w u5):=Below.grown (k.out.trans (q.mono k.out.size)) A (Nat.le_trans k.out.size q.size) (fun i hj=>(World.ownsRow.lt B i hj).1);have a1:Hid _:=U;clear U T O A P B q z d k;go_wp2;exact⟨⟨l.drop r,m++[l.take r],_,_,_,0,by rw[X.out,show l.length-r=0 by omega],by rw[X.out];omega,by omega,a2.out,ab.out,a1.out,by simp;omega,aa.out,a0.out⟩,by simp[al4];omega⟩
      .have an:(r == n)=false:=by simpa using ac
       have a2:Hid (dc w (some ⟨b,o+n*3,none⟩) (l.drop n)):=L.out.drop n;go_wp2_with fail;refine t.mono ?_;rintro e s ⟨rfl,f⟩;have d:=hZ (j.out.trans (f.mono j.out.size));have z:Hid (bg s w.heap.size hi _ m vs):=D.out.below f;have S:=CP.out s d.out;clear t f j D;go_wp2_with fail;refine S.mono ?_;rintro e H ⟨v3,rfl,G,p⟩;obtain⟨F,E,Q,_⟩:=Ey G (by rw[I.out];omega);rw[I.out]at Q;subst Q;have k:=hZ (d.out.trans (p.mono d.out.size));have q:=(Below.refl H.heap.size H).alloc bR (.cells #[.slice (some ⟨F,0,none⟩) n E] 32);have B:=((z.out.below p).below q).row;have T:Hid (Below s.heap.size s (H.alloc (.cells #[.slice (some ⟨F,0,none⟩) n E] 32))):=p.alloc p.size _
       have O:=hZ (G.below q);have aq:=k.out.size;clear S p G;go_wp2_with (at_builtin;refine wpList_append_lies _ rfl _ _ 132 rfl w.heap.size 32 i1 (.slice none 0 0) 1 24 underlying132 hi1 af ag ah rfl (by decide) _ _ _ rfl B ⟨_,0,none⟩ 1 1 [.slice (some ⟨F,0,none⟩) n E] rfl rfl (cell_one_new _ _ _) (fun x hx=>by simp at hx;subst hx;rfl) (by omega) (by unfold maxLen;omega) (by omega) (by simp;omega) _ rfl ?_)
       intro g5 c5 u5 P A a6 a7;have U:=z.out.push d.out.size T.out O.out A P;have a0:Hid (Below w.heap.size w u5):=Below.grown (k.out.trans (q.mono k.out.size)) A (Nat.le_trans k.out.size q.size) (fun i hj=>(World.ownsRow.lt B i hj).1);have a1:Hid _:=U;clear U T O A P B q z d k;go_wp2;exact⟨⟨l.drop n,m++[l.take n],_,_,_,r-n,by rw[X.out],by rw[X.out];omega,by omega,a2.out,ab.out,a1.out,by simp;omega,aa.out,a0.out⟩,by simp[al4];omega⟩
def bd5 (w:World) (l:List Rw) (R:Option (List (List Rw))) (v4 i:Value) (wr:World):Prop :=
 ∃ (k hi:Nat) (out:List (List Rw)) (vs:List Value),k<=l.length/\i=.int .i64 (k:Int)/\bg wr w.heap.size hi v4 out vs/\out.flatten=l.take k/\(∀ p ∈ out,0<p.length)/\scF out (l.drop k)=R/\Below w.heap.size w wr
theorem Ot {out:List (List Rw)} {l:List Rw} {k:Nat}(h:out.flatten=l.take k) (a:∀ p ∈ out,0<p.length):out.length<=l.length:=by
 have b:∀ (o:List (List Rw)),(∀ p ∈ o,0<p.length)->o.length<=o.flatten.length:=by
  intro o;induction o with
  | nil=>intro _;simp
  | cons p o ih =>
   intro a;have:=ih (fun q hq=>a q (by simp[hq]));have:=a p (by simp);simp at *;omega
 have:=b out a;rw[h,List.length_take]at this;omega
theorem Ou {out:List (List Rw)} {l p:List Rw} {k:Nat}(h:out.flatten=l.take k) (a:p ∈ out):(∀ y ∈ p,y ∈ l)/\p.length<=l.length:=by
 refine⟨fun y hy=>?_,?_⟩
 .have:y ∈ out.flatten:=List.mem_flatten.2 ⟨p,a,hy⟩
  rw[h]at this;exact List.mem_of_mem_take this
 .have b:p.length<=out.flatten.length:=by
   obtain⟨s,t,rfl⟩:=List.append_of_mem a;simp
   omega
  rw[h,List.length_take]at b;omega
theorem Lv {out:List (List Rw)} {l:List Rw} {k:Nat} {x:Rw}(h:out.flatten=l.take k) (a:l[k]? = some x):(out++[[x]]).flatten=l.take (k+1):=by
 rw[List.take_add_one,a,List.flatten_append,h];simp
theorem a36 {o:List (List Rw)} {p l:List Rw} {k:Nat} {x:Rw}(h:(o++[p]).flatten=l.take k) (a:l[k]? = some x):(o++[p++[x]]).flatten=l.take (k+1):=by
 rw[List.take_add_one,a,<- h];simp
theorem Dr (w:World) (n:Nat) (x:Value) (t:TypeId) (hn:n=w.heap.size):∀ j u,[x][j]? = some u->(w.alloc (.cells #[x] t)).cell? ((⟨n,0,none⟩:Addr).add j)=some u:=by
 subst hn;exact cell_one_new w x t
theorem aq3 (o:List (List Rw)) (p q:List Rw):(o++[p]).set o.length q=o++[q]:=by simp
theorem Vi (r:List (List Rw)):(xm (some r)).isSome=decide ((r.length:Int)<=40):=by
 show (if r.length<=40 then some r else none).isSome=_
 by_cases h:r.length<=40
 .have a:(r.length:Int)<=40:=by omega
  rw[if_pos h,decide_eq_true a];rfl
 .have a:¬ (r.length:Int)<=40:=by omega
  rw[if_neg h,decide_eq_false a];rfl
theorem Qt {w:World} {a:Option Addr} {l:List Rw} {c:Nat}(hS:dc w a l) (hg:da l=true) (hl:l.length<=c) (hc:c<=9223372036854775807) :
  Calls prog 80 #[.slice a l.length c] w fun e w'=>∃ v,e=.returned (.tuple #[v,.bool (xm (scF [] l)).isSome])/\(∀ gs,scF [] l=some gs->∃ vs,bg w' w.heap.size w'.heap.size v gs vs)/\(scF [] l=none->v=.slice none 0 0)/\Below w.heap.size w w':=by
 obtain⟨R,HR⟩:∃ R,Hid (scF [] l=R):=⟨_,rfl⟩
 rw[HR.out];have bd:=mj hg;have ao:Hid (RwB l):=ph hg;have HS:=hZ hS;obtain⟨i1,hi1,aI,aJ,aK⟩:=info_parts Co;clear hS hg;go_enter func80,ntmps80;go_wp2_with fail;go_loopw [4,11] (fun v4 i wr=>bd5 w l R v4 i wr) (fun _ i _=>l.length-(intOf i).toNat)
 case atStart=>exact⟨0,_,[],[],Nat.zero_le _,rfl,bg.nil w _,by simp,fun p hp=>by simp at hp,HR.out,bX⟩
 case round =>
  obtain⟨k,hi,out,vs,hk,rfl,hN,af,ai,hE,B⟩:=hrel;obtain⟨a4,c4,b4,fm⟩:=hN.form;subst b4;have bm:=Ot af ai;by_cases aY:k<l.length
  .obtain⟨x,r⟩:∃ x,l[k]? = some x:=⟨_,List.getElem?_eq_getElem aY⟩
   rcases HS.out with h0|⟨b,o,rfl,aD⟩
   .rw[h0]at r;simp at r
   have bi:(k:Int)<(l.length:Int):=by omega
   have bh:(k:Int)+1<=(c:Int):=by omega
   have bf:(c == k)=false:=by simp;omega
   have ba:IntKind.i64.wrap ((k:Int)+1)=(k:Int)+1:=by rw[IntKind.wrap_i64];omega
   have br:((k:Int)+1).toNat=k+1:=by omega
   obtain⟨e0,e1,e2⟩:=aD k x r;have a5:=ag e0;have a0:wr.cell? ⟨b,o+k*3,none⟩=some (.string x.key):=(B.cell a5).trans e0;have a1:wr.cell? ⟨b,o+k*3+1,none⟩=some (.string x.text):=(B.cell a5).trans e1;have a2:wr.cell? ⟨b,o+k*3+2,none⟩=some (.string x.val):=(B.cell a5).trans e2;have be:=ag a0;have aQ:Hid (dc w (some ⟨b,o+k*3,none⟩) [x]):=.inr ⟨b,o+k*3,rfl,fun j e he=>by
    match j,he with
    | 0,he=>simp at he;subst he;simpa using ⟨e0,e1,e2⟩⟩
   obtain⟨z0,z1,z2⟩:=ao.out.at r;have aB:Hid (RwB [x]):=⟨by simp,fun y f=>by simp at f;subst f;exact⟨z0,z1,z2⟩⟩;have bA:Below wr.heap.size wr (wr.alloc (.cells #[.string x.key,.string x.text,.string x.val] 37)):=bY _;have PG:Calls prog 81 #[.slice (some ⟨b,o+k*3,none⟩) 1 (c-k)] (wr.alloc (.cells #[.string x.key,.string x.text,.string x.val] 37)) fun e w'=>e=.returned (.string (byT (fi [x])))/\(Below wr.heap.size wr w'/\f9 w' wr.heap.size x) :=
    (tu (cap:=c-k) (l:=[x]) (aQ.out.below (B.trans (bA.mono B.size)) bR) aB.out).mono fun e w' h=>⟨h.1,bA.trans (h.2.mono bA.size),(o7 wr x).below h.2⟩
   have V:Hid ((byT (fi [x])).size=lnP [x]):=rg _;have Z:Hid (bg wr w.heap.size hi _ out vs):=hN;have T:=hZ B;have ab:=hZ af;have am:=hZ ai;have L:=hZ hE;have P:Hid (l.drop k=x::l.drop (k+1)):=b19 r;have HX:=hZ r;have bc:Hid _:=fm;generalize byT (fi [x])=s1 at *;clear hN af ai hE r fm aD e0 e1 e2 a5 B bA;have bp:s1.size<=196098:=by rw[V.out];exact Eh aB.out
   by_cases a3:300<s1.size
   .have aq:Hid (R=none):=by show _=_;rw[<- L.out,P.out];exact zl (by rw[<- V.out];exact a3)
    have ar:(300:Int)<(s1.size:Int):=by omega
    go_wp2_with fail;refine PG.mono ?_;rintro e d ⟨rfl,Q,_⟩;have n:=hZ (T.out.trans (Q.mono T.out.size));clear PG Q;go_wp2;go_ret2;rw[aq.out];exact⟨_,rfl,fun gs h=>(by cases h),fun _=>rfl,n.out⟩
   .have ar:¬ (300:Int)<(s1.size:Int):=by omega
    go_wp2_with fail;refine PG.mono ?_;rintro e d ⟨rfl,Q,x2⟩;have n:=hZ (T.out.trans (Q.mono T.out.size));have u:Hid (bg d w.heap.size hi _ out vs):=Z.out.below Q;have X:=hZ x2;obtain⟨d0,d1,d2⟩:=x2.cells;have bb:=x2.lt;clear PG Q x2 T Z a0 a1 a2;by_cases h0:out.length=0
    .obtain rfl:out=[]:=List.eq_nil_of_length_eq_zero h0
     have U:Hid (scF [[x]] (l.drop (k+1))=R):=by show _=_;rw[<- L.out,P.out,Aa (by rw[<- V.out];exact a3)]
     have N:Below d.heap.size d ((d.alloc (.cells #[.string x.key,.string x.text,.string x.val] 37)).alloc (.cells #[.slice (some ⟨d.heap.size,0,none⟩) 1 1] 32)):=(bY _).alloc (by simp) _;have K:=(u.out.below N).row;have r3:=kh d d.heap.size d.heap.size x rfl bR;have W:Hid (Rws _ d.heap.size (.slice (some ⟨d.heap.size,0,none⟩) 1 1) [x]):=r3.below (bY (.cells #[.slice (some ⟨d.heap.size,0,none⟩) 1 1] 32));have b3:=n.out.size;have A:Hid _:=N;clear r3 L N
     go_wp2_with (at_builtin;refine wpList_append_lies _ rfl _ _ 132 rfl w.heap.size 32 i1 (.slice none 0 0) 1 24 underlying132 hi1 aI aJ aK rfl (by decide) _ _ _ rfl K ⟨_,0,none⟩ 1 1 [.slice (some ⟨d.heap.size,0,none⟩) 1 1] rfl rfl (Dr _ _ _ _ (by simp)) (fun x r=>by simp at r;subst r;rfl) (by omega) (by unfold maxLen;omega) (by omega) (by simp;omega) _ rfl ?_)
     intro g5 c5 u5 Y J au av;have N5:=u.out.push n.out.size A.out W.out J Y;have aj:Hid (Below w.heap.size w u5):=Below.grown (n.out.trans (A.out.mono n.out.size)) J (Nat.le_trans n.out.size A.out.size) (fun i hj=>(World.ownsRow.lt K i hj).1);have al:Hid _:=N5;clear N5 W J Y K u n A;go_wp2;exact⟨⟨k+1,_,[[x]],_,by omega,by go_num,al.out,Lv (out:=[]) ab.out HX.out,fun p hp=>by simp at hp;subst hp;simp,U.out,aj.out⟩,by simp[intOf];omega⟩
    .obtain⟨H,p,M⟩:∃ H p,Hid (out=H++[p]):=by
      rcases List.eq_nil_or_concat out with h|⟨H,p,h⟩
      .rw[h]at h0;simp at h0
      .exact⟨H,p,by show _=_;rw[h];simp⟩
     obtain⟨m,HM⟩:∃ m,Hid (out.length=m+1):=⟨out.length-1,(by show _=_;omega)⟩
     have aZ:m<out.length:=by rw[HM.out];omega
     have bj:(0:Int)<(out.length:Int):=by omega
     have bk:(out.length:Int)-1=(m:Int):=by have:=HM.out;omega
     have bl:(m:Int)<(out.length:Int):=by omega
     have ay:Hid (H.length=m):=by have h1:=HM.out;have h2:=congrArg List.length M.out;simp at h2;show _=_;omega
     have ah:out[m]? = some p:=by rw[M.out,<- ay.out];simp
     obtain⟨vp,aG,hI,_⟩:=u.out.ins m p ah;obtain⟨a9,c9,aF,aC⟩:=u.out.form;obtain⟨gb,aU,aW,_,cb,fz⟩:=aC m vp aG;obtain⟨rfl,rfl⟩:a4=a9/\c4=c9:=by
      injection aF with q1 q2 q3;exact⟨q1,q3⟩
     subst aU;have aS:=ag cb;obtain⟨aE,bo⟩:=Ou ab.out (List.mem_of_getElem? ah);have aO:=hZ aE;obtain⟨D,E,rfl⟩:=db hI;have ac:Hid (SlV d (.slice D p.length E) p):=hI.slV;have bn:=am.out p (List.mem_of_getElem? ah);clear hI aG aC ah aF aE fz a3;have bs:IntKind.i64.wrap (m:Int)=(m:Int):=by rw[IntKind.wrap_i64];omega
     have bE:Below d.heap.size d (d.alloc (.cells #[] 37)):=bY _;have R0:Hid (Rws (d.alloc (.cells #[] 37)) d.heap.size (.slice (some ⟨d.heap.size,0,none⟩) 0 0) []):=um d _ _ rfl bR;have S0:Hid (SlV (d.alloc (.cells #[] 37)) (.slice D p.length E) p):=ac.out.below bE bR;have bF:Below d.heap.size d ((d.alloc (.cells #[] 37)).alloc (.cells #[.string x.key,.string x.text,.string x.val] 37)):=bE.alloc (by simp) _;have R1:Hid (Rws ((d.alloc (.cells #[] 37)).alloc (.cells #[.string x.key,.string x.text,.string x.val] 37)) d.heap.size (.slice (some ⟨d.heap.size,0,none⟩) 0 0) []):=R0.out.below (bY _);have S1:Hid (SlV ((d.alloc (.cells #[] 37)).alloc (.cells #[.string x.key,.string x.text,.string x.val] 37)) (.slice D p.length E) p):=ac.out.below bF bR
     have X1:Hid (Rws ((d.alloc (.cells #[] 37)).alloc (.cells #[.string x.key,.string x.text,.string x.val] 37)) d.heap.size (.slice (some ⟨d.heap.size+1,0,none⟩) 1 1) [x]):=kh _ _ _ x (by simp) (by simp);have bG:Below d.heap.size d ((d.alloc (.cells #[.string x.key,.string x.text,.string x.val] 37)).alloc (.cells #[] 37)):=(bY _).alloc (by simp) _;have R2:Hid (Rws ((d.alloc (.cells #[.string x.key,.string x.text,.string x.val] 37)).alloc (.cells #[] 37)) d.heap.size (.slice (some ⟨d.heap.size+1,0,none⟩) 0 0) []):=um _ _ _ (by simp) (by simp);have S2:Hid (SlV ((d.alloc (.cells #[.string x.key,.string x.text,.string x.val] 37)).alloc (.cells #[] 37)) (.slice D p.length E) p):=ac.out.below bG bR
     have X2:Hid (Rws ((d.alloc (.cells #[.string x.key,.string x.text,.string x.val] 37)).alloc (.cells #[] 37)) d.heap.size (.slice (some ⟨d.heap.size,0,none⟩) 1 1) [x]):=(kh d _ _ x rfl bR).below (bY _);go_upto_region 9 with fail
     go_cut [8,11] from 11 to 52 (fun v8 i wx=>i=.int .i64 (k:Int)/\Rws wx d.heap.size v8 (p++[x])/\Below d.heap.size d wx)
     case first =>
      go_region_law (first
       | (refine em rfl (.tmp 28) (.tmp 33) rfl d.heap.size (.slice (some ⟨d.heap.size,0,none⟩) 0 0) (.slice D p.length E) [] p rfl rfl (mb R0.out rfl) (ip S0.out rfl) (by simp;omega) (by first|(simp;done)|(simp;omega)) ?_;intro v6 w6 G z;have t:Below d.heap.size d w6:=Below.grown (by repeat (first|with_reducible exact bE|with_reducible refine Below.drew ?_)) z (by first|(simp;done)|(simp;omega)) (fun g e=>by cases e;first|exact bR|exact Nat.le_succ _);have I:=X.out.below t;obtain⟨f0,f1,f2⟩:=I.cells;have aH:=I.lt;have aL:=t.size;clear z)
       | (refine em rfl (.tmp 28) (.tmp 33) rfl d.heap.size (.slice (some ⟨d.heap.size,0,none⟩) 0 0) (.slice D p.length E) [] p rfl rfl (mb R1.out rfl) (ip S1.out rfl) (by simp;omega) (by first|(simp;done)|(simp;omega)) ?_;intro v6 w6 G z;have t:Below d.heap.size d w6:=Below.grown (by repeat (first|with_reducible exact bF|with_reducible refine Below.drew ?_)) z (by first|(simp;done)|(simp;omega)) (fun g e=>by cases e;first|exact bR|exact Nat.le_succ _);have ax:=Uv z X1.out rfl (by simp[Value.ownBlock]);have I:=X.out.below t;obtain⟨f0,f1,f2⟩:=I.cells;have aH:=I.lt;have aL:=t.size;clear z)
       | (refine em rfl (.tmp 28) (.tmp 33) rfl d.heap.size (.slice (some ⟨d.heap.size+1,0,none⟩) 0 0) (.slice D p.length E) [] p rfl rfl (mb R2.out rfl) (ip S2.out rfl) (by simp;omega) (by first|(simp;done)|(simp;omega)) ?_;intro v6 w6 G z;have t:Below d.heap.size d w6:=Below.grown (by repeat (first|with_reducible exact bG|with_reducible refine Below.drew ?_)) z (by first|(simp;done)|(simp;omega)) (fun g e=>by cases e;first|exact bR|exact Nat.le_succ _);have ax:=Uv z X2.out rfl (by simp[Value.ownBlock]);have I:=X.out.below t;obtain⟨f0,f1,f2⟩:=I.cells;have aH:=I.lt;have aL:=t.size;clear z)
       | (refine em rfl (.tmp 34) (.tmp 36) rfl d.heap.size v6 (.slice (some ⟨w6.heap.size,0,none⟩) 1 1) ([]++p) [x] rfl rfl (mb (G.below (bY (.cells #[.string x.key,.string x.text,.string x.val] 37))) rfl) (ip (kh w6 w6.heap.size w6.heap.size x rfl bR).slV rfl) (by simp;omega) (by first|omega|(simp;omega)) ?_;intro v7 w7 i7 F;have b7:Below d.heap.size d w7:=Below.grown (by repeat (first|with_reducible exact (t.alloc t.size _)|with_reducible refine Below.drew ?_)) F (by first|omega|(simp;omega)) (fun g e=>(World.ownsRow.lt G g e).1);clear F)
       | (refine em rfl (.tmp 34) (.tmp 36) rfl d.heap.size v6 (.slice (some ⟨d.heap.size+1,0,none⟩) 1 1) ([]++p) [x] rfl rfl (mb G rfl) (ip ax rfl) (by simp;omega) (by first|omega|(simp;omega)) ?_;intro v7 w7 i7 F;have b7:Below d.heap.size d w7:=Below.grown (by repeat (first|with_reducible exact t|with_reducible refine Below.drew ?_)) F (by first|omega|(simp;omega)) (fun g e=>(World.ownsRow.lt G g e).1);clear F)
       | (refine em rfl (.tmp 34) (.tmp 36) rfl d.heap.size v6 (.slice (some ⟨d.heap.size,0,none⟩) 1 1) ([]++p) [x] rfl rfl (mb G rfl) (ip ax rfl) (by simp;omega) (by first|omega|(simp;omega)) ?_;intro v7 w7 i7 F;have b7:Below d.heap.size d w7:=Below.grown (by repeat (first|with_reducible exact t|with_reducible refine Below.drew ?_)) F (by first|omega|(simp;omega)) (fun g e=>(World.ownsRow.lt G g e).1);clear F))
      all_goals
       have hK:Rws w7 d.heap.size v7 (p++[x]):=by simpa using i7
       clear i7;go_wp2_with fail;go_meet
       case rel=>exact⟨rfl,hK,b7⟩
     case rest =>
      obtain⟨rfl,r8,b8⟩:=hcut;obtain⟨q,C⟩:∃ q,Hid (q=p++[x]):=⟨_,rfl⟩
      rw[<- C.out]at r8;have b0:q.length=p.length+1:=by rw[C.out];simp
      have az:Hid (RwB q):=by
       rw[C.out];refine⟨by simp;omega,fun y f=>?_⟩;rcases List.mem_append.1 f with f|f
       .exact ao.out.2 y (aO.out y f)
       .simp at f;subst f;exact⟨z0,z1,z2⟩
      obtain⟨a8,c8,b5⟩:=db r8;subst b5;have ad:Calls prog 81 #[.slice a8 q.length c8] wc fun e w'=>e=.returned (.string (byT (fi q)))/\Below wc.heap.size wc w':=tu (ja r8) az.out
      have a6:Hid ((byT (fi q)).size=lnP q):=rg _;generalize byT (fi q)=s2 at *;have bq:s2.size<=196098:=by rw[a6.out];exact Eh az.out
      have b1:q.length<=61:=by omega
      have an:=hZ r8;have O:=hZ b8;clear r8 b8 bE R0 S0 bF R1 S1 X1 bG R2 S2 X2 ac ao b0;by_cases a7:s2.size<=300
      .have aa:(s2.size:Int)<=300:=by omega
       have U:Hid (scF (H++[q]) (l.drop (k+1))=R):=by
        show _=_
        rw[<- L.out,P.out,M.out,zm (by rw[<- V.out];omega) (by rw[<- C.out,<- a6.out];exact a7),C.out]
       clear L P;go_wp2_with fail;refine ad.mono ?_;rintro e w9 ⟨rfl,S⟩;have s:=hZ (O.out.trans (S.mono O.out.size));have aA:=hZ (an.out.below S);have aR:w9.cell? ⟨gb,m,none⟩=some (.slice D p.length E):=(s.out.cell aS).trans cb;have aV:=ag aR;have aT:w9.frozen? ⟨gb,m,none⟩=false:=World.ownsRow.frozenAt (u.out.below s.out).row m;have aM:Hid (Below w.heap.size w (w9.setCell ⟨gb,m,none⟩ (.slice a8 q.length c8))):=(n.out.trans (s.out.mono n.out.size)).setCell aW _;have aP:Hid (out.set m q=H++[q]):=by show _=_;rw[M.out,<- ay.out];exact aq3 _ _ _
       have aw:=u.out.store n.out.size s.out aA.out aZ;rw[aP.out]at aw;have aN:Hid _:=aw;clear aw ad S s aA O an cb u n;go_wp2;refine⟨⟨k+1,_,H++[q],_,by omega,by go_num,aN.out,by rw[C.out];exact a36 (by rw[<- M.out];exact ab.out) HX.out,fun y f=>?_,U.out,aM.out⟩,by simp[intOf];omega⟩;rcases List.mem_append.1 f with f|f
       .exact am.out y (by rw[M.out];exact List.mem_append_left _ f)
       .simp at f;rw[f,C.out];simp
      .have aa:¬ (s2.size:Int)<=300:=by omega
       have U:Hid (scF (out++[[x]]) (l.drop (k+1))=R):=by
        show _=_
        rw[<- L.out,P.out,M.out,Bt (by rw[<- V.out];omega) (by rw[<- C.out,<- a6.out];exact a7)]
       clear L P;go_wp2_with fail;refine ad.mono ?_;rintro e w9 ⟨rfl,S⟩;have ae:Below d.heap.size d w9:=O.out.trans (S.mono O.out.size);have s:=hZ (n.out.trans (ae.mono n.out.size));have ak:Hid (bg w9 w.heap.size hi _ out vs):=u.out.below ae;have x9:=X.out.below ae;obtain⟨f0,f1,f2⟩:=x9.cells;have bt:=x9.lt;have N:Below w9.heap.size w9 ((w9.alloc (.cells #[.string x.key,.string x.text,.string x.val] 37)).alloc (.cells #[.slice (some ⟨w9.heap.size,0,none⟩) 1 1] 32)):=(bY _).alloc (by simp) _;have K:=(ak.out.below N).row;have r3:=kh w9 w9.heap.size w9.heap.size x rfl bR;have W:Hid (Rws _ w9.heap.size (.slice (some ⟨w9.heap.size,0,none⟩) 1 1) [x]):=r3.below (bY (.cells #[.slice (some ⟨w9.heap.size,0,none⟩) 1 1] 32));have b3:=s.out.size
       have A:Hid _:=N;clear r3 N ad S ae x9 O an cb u n X d0 d1 d2;go_wp2_with (at_builtin;refine wpList_append_lies _ rfl _ _ 132 rfl w.heap.size 32 i1 (.slice none 0 0) 1 24 underlying132 hi1 aI aJ aK rfl (by decide) _ _ _ rfl K ⟨_,0,none⟩ 1 1 [.slice (some ⟨w9.heap.size,0,none⟩) 1 1] rfl rfl (Dr _ _ _ _ (by simp)) (fun x r=>by simp at r;subst r;rfl) (by omega) (by unfold maxLen;omega) (by omega) (by simp;omega) _ rfl ?_)
       intro g5 c5 u5 Y J au av;have N5:=ak.out.push s.out.size A.out W.out J Y;have aj:Hid (Below w.heap.size w u5):=Below.grown (s.out.trans (A.out.mono s.out.size)) J (Nat.le_trans s.out.size A.out.size) (fun i hj=>(World.ownsRow.lt K i hj).1);have al:Hid _:=N5;clear N5 W J Y K ak s A;go_wp2;refine⟨⟨k+1,_,out++[[x]],_,by omega,by go_num,al.out,Lv ab.out HX.out,fun y f=>?_,U.out,aj.out⟩,by simp[intOf];omega⟩;rcases List.mem_append.1 f with f|f
       .exact am.out y f
       .simp at f;rw[f];simp
  .have aX:k=l.length:=by omega
   subst aX;have aq:Hid (R=some out):=by show _=_;rw[<- hE,List.drop_length];rfl
   have Z:Hid (bg wr w.heap.size hi _ out vs):=hN;have HB:=hZ B;clear hN af ai hE fm B;go_wp2;go_ret2;rw[aq.out,Vi];exact⟨_,rfl,fun gs h=>by obtain rfl:=Option.some.inj h;exact⟨_,Z.out.high Z.out.top bR⟩,fun h=>(by cases h),HB.out⟩
theorem Kp {l:List Rw}(a:da l=true):nl l=xm (scF [] l):=by unfold nl;rw[if_pos a,aw6]
theorem ag5 {o:Option (List (List Rw))} {gs:List (List Rw)}(h:xm o=some gs):o=some gs:=by
 cases o with
 | none=>cases h
 | some r =>
  have a:(if r.length<=40 then some r else none)=some gs:=h;split at a
  .exact a
  .cases a
def pgT (g:List Rw):ByteArray:=byT (fi g)
def mc (l:List Rw):Option (List ByteArray):=match nl l with
 | none=>none
 | some gs=>some (gs.map pbT)
theorem uv {l:List Rw}(h:nl l=none):mc l=none:=by unfold mc;rw[h]
theorem uw {l:List Rw} {gs:List (List Rw)}(h:nl l=some gs):mc l=some (gs.map pbT):=by unfold mc;rw[h]
theorem Ih (l:List Rw):∀ (out r:List (List Rw)),scF out l=some r->r.flatten=out.flatten++l:=by
 induction l with
 | nil =>
  intro out r h;have c:some out=some r:=h
  cases c
  simp
 | cons x l ih =>
  intro out r h;by_cases a:300<lnP [x]
  .rw[zl a]at h;cases h
  .cases hg:out.getLast? with
   | none =>
    obtain rfl:out=[]:=List.getLast?_eq_none_iff.1 hg;rw[Aa a]at h;rw[ih _ _ h];simp
   | some p =>
    obtain⟨o,rfl⟩:∃ o,out=o++[p]:=List.getLast?_eq_some_iff.1 hg
    by_cases b:lnP (p++[x])<=300
    .rw[zm a b]at h
     rw[ih _ _ h];simp
    .rw[Bt a b]at h
     rw[ih _ _ h];simp
theorem b21 {l:List Rw} {r:List (List Rw)}(a:da l=true) (h:scF [] l=some r):(∀ g ∈ r,RwB g):=by
 have d:=Ih l [] r h;intro g e;have c:=ph a;have f:=mj a;obtain⟨b,i⟩:=Ou (out:=r) (l:=l) (k:=l.length) (by rw[d];simp) e;exact⟨by omega,fun x hx=>c.2 x (b x hx)⟩
theorem Lh:∀ (ss:List ByteArray) (acc gs:List (List Rw)),bkF acc ss=some gs->gs=acc++ss.map am/\∀ s ∈ ss,dj s=0
 | [],acc,gs,h=>by
  have c:some acc=some gs:=h
  cases c
  simp
 | s::ss,acc,gs,h=>by
  unfold bkF at h;by_cases a:ii acc s=true
  .rw[if_pos a]at h
   obtain⟨d,e⟩:=Lh ss _ gs h;refine⟨by rw[d];simp,fun t b=>?_⟩;rcases List.mem_cons.1 b with rfl|b
   .unfold ii at a
    rw[Bool.and_eq_true,decide_eq_true_eq]at a;exact a.1
   .exact e t b
  .rw[if_neg a]at h
   cases h
theorem Rz {ss:List ByteArray} {gs:List (List Rw)}(h:bu ss=some gs):gs=ss.map am/\∀ s ∈ ss,dj s=0:=by
 unfold bu at h;split at h
 .have:=Lh ss [] gs h
  simpa using this
 .cases h
theorem a10 {l:List Rw} {gs:List (List Rw)}(h:nl l=some gs):da l=true/\gs.flatten=l:=by
 by_cases a:da l=true
 .refine⟨a,?_⟩
  rw[Kp a]at h
  cases hs:scF [] l with
  | none=>rw[hs]at h;cases h
  | some r =>
   rw[hs]at h;have b:=Ih l [] r hs;unfold xm at h;simp only at h;split at h
   .cases h
    simpa using b
   .cases h
 .unfold nl at h
  rw[if_neg a]at h
  cases h
theorem Cx {l:List Rw} {p:List ByteArray}(h:mc l=some p):∃ gs,bu p=some gs/\gs.flatten=l/\gs=p.map am/\(∀ s ∈ p,dj s=0)/\p.length<=40/\∀ s ∈ p,s.size<=300:=by
 cases hc:nl l with
 | none=>rw[uv hc]at h;cases h
 | some gs =>
  rw[uw hc]at h
  cases h
  obtain⟨j,d⟩:=a10 hc;obtain⟨b,a⟩:=Kq hc;have k:gs.map pbT=gs.map pgB:=List.map_congr_left fun g hgm=>b87 (a g hgm)
  have i:=ag9 j d a;have c:bu (gs.map pbT)=some gs:=by
   rw[k,Ve i,if_pos ⟨b,fun g hgm=>(am6 (a g hgm)).1⟩]
  obtain⟨e,f⟩:=Rz c;refine⟨gs,c,d,e,f,by simpa using b,fun s hs=>?_⟩;obtain⟨g,_,rfl⟩:=List.mem_map.1 hs;exact an6 g
def an (u:World) (p:Nat) (r:ByteArray) (v:Value) (log:ByteArray) (syn:Int):Prop:=u.heap[p]? = some (.cells #[.string r,v,.string log,.int .i64 syn] 25)
theorem an.lt {u:World} {p:Nat} {r:ByteArray} {v:Value} {log:ByteArray} {syn:Int}(h:an u p r v log syn):p<u.heap.size:=(Array.getElem?_eq_some_iff.1 h).1
theorem an.below {u u':World} {p:Nat} {r:ByteArray} {v:Value} {log:ByteArray} {syn:Int}(h:an u p r v log syn) (a:Below u.heap.size u u'):an u' p r v log syn:=(a.block p h.lt).trans h
theorem an.facts {u:World} {p:Nat} {r:ByteArray} {v:Value} {log:ByteArray} {syn:Int}(h:an u p r v log syn):p<u.heap.size/\u.cell? ⟨p,0,none⟩=some (.string r)/\u.cell? ⟨p,1,none⟩=some v/\u.cell? ⟨p,2,none⟩=some (.string log)/\u.cell? ⟨p,3,none⟩=some (.int .i64 syn)/\∀ j,u.frozen? ⟨p,j,none⟩=false :=
 ⟨h.lt,cell_of_row _ _ 0 _ _ _ h,cell_of_row _ _ 1 _ _ _ h,cell_of_row _ _ 2 _ _ _ h,cell_of_row _ _ 3 _ _ _ h,fun j=>frozen_of_row _ _ j _ _ h⟩
theorem an.new (w:World) (r:ByteArray) (v:Value) (log:ByteArray) (syn:Int):an (w.alloc (.cells #[.string r,v,.string log,.int .i64 syn] 25)) w.heap.size r v log syn:=heap_alloc_new w _
theorem Yu {w u:World} {p:Nat} {a b c d:Value}(h:Below w.heap.size w u) (e:w.heap.size<=p):Below w.heap.size w ((((u.setCell ⟨p,0,none⟩ a).setCell ⟨p,1,none⟩ b).setCell ⟨p,2,none⟩ c).setCell ⟨p,3,none⟩ d) :=
 (((h.setCell (p:=⟨p,0,none⟩) e _).setCell (p:=⟨p,1,none⟩) e _).setCell (p:=⟨p,2,none⟩) e _).setCell (p:=⟨p,3,none⟩) e _
theorem Wt (w:World) (g k:Nat) (u:Value):w.grownBy (w.setCell ⟨g,k,none⟩ u) (some g) :=
 ⟨rfl,rfl,rfl,by simp,fun i _ hn=>heap_setCell_other _ ⟨g,k,none⟩ i _ (fun e=>hn (by rw[e]))⟩
theorem Yw (u:World) (p:Nat) (a b c d:Value):u.grownBy ((((u.setCell ⟨p,0,none⟩ a).setCell ⟨p,1,none⟩ b).setCell ⟨p,2,none⟩ c).setCell ⟨p,3,none⟩ d) (some p) :=
 (((Wt u p 0 a).trans (Wt _ p 1 b)).trans (Wt _ p 2 c)).trans (Wt _ p 3 d)
theorem Tp {w:World} {B p:Nat} {v:Value} {ss:List ByteArray} {r:ByteArray} {x:Value} {log:ByteArray} {syn:Int}(h:ah w B v ss) (a:an w p r x log syn):v.ownBlock=none\/v.ownBlock≠some p:=by
 rcases h.2 with ⟨rfl,_⟩|⟨g,d,f,rfl,_,c,_⟩
 .exact .inl rfl
 .refine .inr fun e=>?_
  have b:g=p:=Option.some.inj e;subst b;unfold an at a;rw[c]at a;injection a with q1;injection q1 with _ q2;exact absurd q2 (by decide)
theorem ji {u:World} {B a:Nat} {v:Value} {ss:List ByteArray}(h:ah u a v ss) (e:B<=a):ah u B v ss:=by
 refine⟨h.1,?_⟩;rcases h.2 with d|⟨g,b,c,q1,q2,q3⟩
 .exact .inl d
 .exact .inr ⟨g,b,c,q1,Nat.le_trans e q2,q3⟩
def bb4 (W:World) (B:Nat) (ss:List ByteArray) (v i:Value) (wr:World):Prop :=
 ∃ k:Nat,k<=ss.length/\i=.int .i64 (k:Int)/\ah wr B v (ss.take k)/\Below W.heap.size W wr
theorem Z6 {ss:List ByteArray} {k:Nat} {s:ByteArray}(h:ss[k]? = some s):ss.take (k+1)=ss.take k++[s]:=by rw[List.take_add_one,h];rfl
theorem Ob {w:World} {B:Nat} {vp:Value} {ss:List ByteArray}(r log:ByteArray) (syn:Int) (b:ah w B vp ss) (hz:∀ s ∈ ss,s.size<=1048576) (hl:ss.length<=1048576) (hr:r.size<=1048576) (ab:log.size<=1048576) :
  Calls prog 88 #[.agg #[.string r,vp,.string log,.int .i64 syn]] w fun e w'=>∃ v',e=.returned (.agg #[.string r,v',.string log,.int .i64 syn])/\ah w' w.heap.size v' ss/\Below w.heap.size w w':=by
 obtain⟨a,c,rfl,hq⟩:=gz b;obtain⟨i1,hi1,ad,ae,af⟩:=info_parts E9;obtain⟨W,l⟩:∃ W,W=(w.alloc (.cells #[.string r,.slice a ss.length c,.string log,.int .i64 syn] 25)).alloc (.cells #[.string ⟨#[]⟩,.slice none 0 0,.string ⟨#[]⟩,.int .i64 0] 25):=⟨_,rfl⟩
 have H:Below w.heap.size w W:=by rw[l];exact (bY _).alloc (by simp) _
 have al:W.heap.size=w.heap.size+2:=by rw[l];simp
 have I:an W w.heap.size r (.slice a ss.length c) log syn:=by
  show _=_
  rw[l,Below.heap_alloc _ _ _ (by simp)];exact heap_alloc_new w _
 have R:an W (w.heap.size+1) ⟨#[]⟩ (.slice none 0 0) ⟨#[]⟩ 0:=by
  have h:=heap_alloc_new (w.alloc (.cells #[.string r,.slice a ss.length c,.string log,.int .i64 syn] 25)) (.cells #[.string ⟨#[]⟩,.slice none 0 0,.string ⟨#[]⟩,.int .i64 0] 25);rw[World.size_alloc]at h;show _=_
  rw[l];exact h
 have a4:=hZ I;have a6:=hZ R;have O:=hZ H;have HQ:Hid (∀ (j:Nat) (s:ByteArray),ss[j]? = some s->∃ g,a=some ⟨g,0,none⟩/\∀ w',Below W.heap.size W w'->∀ (j:Nat) (s:ByteArray),ss[j]? = some s->w'.cell? ⟨g,j,none⟩=some (.string s)):=fun j s d=>by
  obtain⟨g,h1,h2⟩:=hq j s d;exact⟨g,h1,fun w' hw'=>h2 w' (H.trans (hw'.mono (by omega)))⟩
 have K:Hid (∀ (s:ByteArray) (u:World),s.size<=1048576->Calls prog 123 #[.string s] u fun e w'=>e=.returned (.string s)/\Below u.heap.size u w'):=fun s u d=>vu s u d
 have HZ:=hZ hz;have HW:=hZ l;obtain⟨p1,Y,Z,a0,a1,a2⟩:=I.facts;clear b hq hz I R H l;go_enter func88,ntmps88;go_wp2_with fail;rw[<- HW.out];clear HW;go_wp2_with fail;go_loopw [3,9] (fun v i wr=>bb4 W W.heap.size ss v i wr) (fun _ i _=>ss.length-(intOf i).toNat)
 case atStart=>exact⟨0,Nat.zero_le _,rfl,World.ownsRow_nil _ _ _ _,bX⟩
 case round =>
  clear p1 Y Z a0 a1 a2;obtain⟨k,hk,rfl,b,N⟩:=hrel;have z:=hZ b;have f:=hZ N;have ai:=N.size;clear b N;by_cases U:k<ss.length
  .obtain⟨s,d⟩:∃ s,ss[k]? = some s:=by exact⟨_,List.getElem?_eq_getElem U⟩
   obtain⟨g,rfl,S⟩:=HQ.out k s d;have e0:=S wr f.out k s d;have aa:=ag e0;have aj:(k:Int)<(ss.length:Int):=by omega
   have C:=K.out s wr (HZ.out s (List.mem_of_getElem? d));have HT:Hid (ss.take (k+1)=ss.take k++[s]):=Z6 d;have V:(ss.take k).length=k:=by rw[List.length_take];omega
   clear S d;go_wp2_with fail;refine C.mono ?_;rintro e w2 ⟨rfl,L⟩;have P:=hZ (z.out.below L);have t:=hZ (f.out.trans (L.mono f.out.size));have ak:=t.out.size;have M:=(Below.refl w2.heap.size w2).alloc bR (.cells #[.string s] 9);have n:=P.out.below M;have Q:=hZ n;have F:=hZ (t.out.trans (M.mono t.out.size));unfold ah at n;rw[V]at n;clear C L M z f e0 aa P t
   go_wp2_with (at_builtin;refine wpList_append_own _ rfl _ _ 23 rfl W.heap.size 9 i1 (.string ⟨#[]⟩) 1 16 underlying23 hi1 ad ae af rfl (by decide) _ _ _ rfl n ⟨_,0,none⟩ 1 1 [.string s] rfl rfl (cell_one_new _ _ _) (fun x hx=>by simp at hx;subst hx;rfl) (by unfold maxLen;omega) (by omega) (by simp;omega) ?_;intro v4 w4 X T _)
   have a8:Hid (ah w4 W.heap.size v4 (ss.take k++[s])):=ah.snoc (by rw[V];exact X);have a3:Hid (Below W.heap.size W w4):=Below.grown F.out T F.out.size (fun j hj=>(World.ownsRow.lt Q.out j hj).1);clear X T Q F n;go_wp2;exact⟨⟨k+1,by omega,by go_num,by rw[HT.out];exact a8.out,a3.out⟩,by simp[intOf];omega⟩
  .obtain rfl:k=ss.length:=by omega
   have b:=z.out;rw[List.take_length]at b;obtain⟨A,D,ac,_⟩:=gz b;subst ac;have a9:=hZ b;have G:=hZ (a4.out.below f.out);have y:=hZ (a6.out.below f.out);obtain⟨p1,Y,Z,a0,a1,a2⟩:=G.out.facts;obtain⟨q1,am,ao,ap,aq,ar⟩:=y.out.facts;have CR:=fun u=>K.out r u hr
   have CL:=fun u=>K.out log u ab
   clear b z U hk;go_wp2_with fail;go_region_law (first
    | (go_simp;go_at_call 123;refine (CR _).mono ?_;rintro e w5 ⟨rfl,o⟩;have E:Below wr.heap.size wr w5:=⟨o.os,o.tape,o.output,o.size,o.block⟩;obtain⟨r1,au,aw,ax,ay,az⟩:=(G.out.below E).facts;obtain⟨s1,aA,aB,aC,aD,aE⟩:=(y.out.below E).facts)
    | (go_simp;go_at_call 123;refine (CL _).mono ?_;rintro e w6 ⟨rfl,p⟩;have z6:Below w5.heap.size w5 w6:=⟨p.os,p.tape,p.output,p.size,p.block⟩;have q:Below wr.heap.size wr w6:=E.trans (z6.mono E.size);obtain⟨t1,aF,aG,aH,aI,aJ⟩:=(G.out.below q).facts;obtain⟨v1,aK,aL,aM,aN,aO⟩:=(y.out.below q).facts))
   all_goals
    have J:=a9.out.below q;have a7:Hid (ah ((((w6.setCell ⟨w.heap.size+1,0,none⟩ (.string r)).setCell ⟨w.heap.size+1,1,none⟩ (.slice A ss.length D)).setCell ⟨w.heap.size+1,2,none⟩ (.string log)).setCell ⟨w.heap.size+1,3,none⟩ (.int .i64 syn)) w.heap.size (.slice A ss.length D) ss):=ji (World.ownsRow.kept J (Yw w6 (w.heap.size+1) _ _ _ _) (Tp J (y.out.below q))) (by omega);have m:Hid (Below w.heap.size w ((((w6.setCell ⟨w.heap.size+1,0,none⟩ (.string r)).setCell ⟨w.heap.size+1,1,none⟩ (.slice A ss.length D)).setCell ⟨w.heap.size+1,2,none⟩ (.string log)).setCell ⟨w.heap.size+1,3,none⟩ (.int .i64 syn))):=Yu (O.out.trans ((f.out.trans (q.mono f.out.size)).mono O.out.size)) (by omega);clear J;go_wp2
    refine bodyPost_ret (v:=.agg #[.string r,.slice A ss.length D,.string log,.int .i64 syn]) ?_ rfl ⟨_,rfl,a7.out,⟨m.out.os,m.out.tape,m.out.output,m.out.size,m.out.block⟩⟩;rw[av rfl];go_simp
theorem To {w:World} {a:Option Addr} {l:List Rw} {c:Nat}(f:dc w a l) (m:da l=true) (hl:l.length<=c) (hc:c<=9223372036854775807) :
  Calls prog 36 #[.slice a l.length c] w fun e w'=>∃ v,e=.returned (.tuple #[v,.bool (xm (scF [] l)).isSome])/\(∀ gs,scF [] l=some gs->ah w' w.heap.size v (gs.map pgT))/\Below w.heap.size w w':=by
 have K:=Qt f m hl hc;obtain⟨i0,hi0,aj,ak,al⟩:=info_parts E9;obtain⟨ok,T⟩:∃ ok,Hid ((xm (scF [] l)).isSome=ok):=⟨_,rfl⟩
 rw[T.out]at K ⊢;obtain⟨gs,t⟩:∃ gs,Hid ((scF [] l).getD []=gs):=⟨_,rfl⟩
 have a6:Hid (∀ g ∈ gs,RwB g):=by
  rw[<- t.out]
  cases h:scF [] l with
  | none=>exact fun g m=>by simp at m
  | some r=>exact b21 m h
 have a5:Hid (gs.length<=60):=by
  rw[<- t.out]
  cases h:scF [] l with
  | none=>exact Nat.zero_le _
  | some r =>
   have hf:=Ih l [] r h;have s:∀ (H:List Rw) (out q:List (List Rw)),(∀ p ∈ out,0<p.length)->scF out H=some q->∀ p ∈ q,0<p.length:=by
    intro H;induction H with
    | nil =>
     intro out q G h;have h':some out=some q:=h
     cases h'
     exact G
    | cons x H ih =>
     intro out q G h;by_cases E:300<lnP [x]
     .rw[zl E]at h;cases h
     .cases hgl:out.getLast? with
      | none =>
       obtain rfl:out=[]:=List.getLast?_eq_none_iff.1 hgl;rw[Aa E]at h;exact ih _ _ (fun p s=>by simp at s;subst s;simp) h
      | some p =>
       obtain⟨o,rfl⟩:∃ o,out=o++[p]:=List.getLast?_eq_some_iff.1 hgl
       by_cases F:lnP (p++[x])<=300
       .rw[zm E F]at h
        refine ih _ _ (fun y d=>?_) h;rcases List.mem_append.1 d with d|d
        .exact G y (List.mem_append_left _ d)
        .simp at d;rw[d];simp
       .rw[Bt E F]at h
        refine ih _ _ (fun y d=>?_) h;rcases List.mem_append.1 d with d|d
        .exact G y d
        .simp at d;rw[d];simp
   have aa:=mj m;have N:=Ot (out:=r) (l:=l) (k:=l.length) (by rw[hf];simp) (s l [] r (fun p s=>by simp at s) h);show r.length<=60
   omega
 have S:Hid (∀ (u:World) (O:Nat) (v:Value),(∀ gs,scF [] l=some gs->∃ vs,bg u O u.heap.size v gs vs)->(scF [] l=none->v=.slice none 0 0)->BkV u v gs):=fun u O v F h2=>by
  rw[<- t.out]
  cases h:scF [] l with
  | none=>rw[h2 h];exact (bg.nil u O).bk
  | some r=>obtain⟨vs,q⟩:=F r h;exact q.bk
 have a0:Hid (∀ gs',scF [] l=some gs'->gs'=gs):=fun gs' h=>by rw[<- t.out,h];rfl
 clear f m t T;generalize scF [] l=sc at *;have aa:=a5.out;go_enter func36,ntmps36;go_wp2_with fail;refine K.mono ?_;rintro e n ⟨v1,rfl,P,Q,Z⟩;have V1:=S.out n _ v1 P Q;obtain⟨a1,c1,rfl,_⟩:=V1;have HV:Hid (BkV n (.slice a1 gs.length c1) gs):=S.out n _ _ P Q;have I:=hZ Z;clear K P Q Z;go_wp2_with fail;go_loopw [6,16] (fun v i wr=>as7 n gs pgT (fun _=>true) v i wr) (fun _ i _=>gs.length-(intOf i).toNat)
 case atStart=>exact⟨0,Nat.zero_le _,rfl,World.ownsRow_nil _ _ _ _,fun j g hj _=>rfl,bX⟩
 case round =>
  obtain⟨k,hk,rfl,f,_,A⟩:=hrel;by_cases ad:k<gs.length
  .obtain⟨g,m⟩:∃ g,gs[k]? = some g:=⟨_,List.getElem?_eq_getElem ad⟩
   obtain⟨a',c',af,N⟩:=HV.out.below A bR;injection af with q1 _ q3;subst q1;subst q3;obtain⟨b,o,ax,cx,rfl,d1,W⟩:=N k g m;have am:=ag d1;have an:(k:Int)<(gs.length:Int):=by omega
   have Y:Calls prog 81 #[.slice ax g.length cx] wr fun e w'=>e=.returned (.string (pgT g))/\Below wr.heap.size wr w':=tu (cap:=cx) W (a6.out g (List.mem_of_getElem? m))
   have X:Hid ((gs.take (k+1)).map pgT=(gs.take k).map pgT++[pgT g]):=Dg pgT m;have a2:((gs.take k).map pgT).length<=60:=by simp;omega
   obtain⟨R,a8⟩:∃ R,Hid ((gs.take k).map pgT=R):=⟨_,rfl⟩
   rw[a8.out]at X a2 f;obtain⟨a4,c4,ai⟩:=eu f;subst ai;have D:=hZ f;have z:=hZ A;clear N W m f A;generalize pgT g=pg at *;go_wp2_with fail;refine Y.mono ?_;rintro e w2 ⟨rfl,L⟩;have B:=hZ (z.out.trans (L.mono z.out.size));have M:=(Below.refl w2.heap.size w2).alloc bR (.cells #[.string pg] 9);have C:=(D.out.below L).below M;have J:Hid (Below n.heap.size n _):=B.out.trans (M.mono B.out.size);have ao:=B.out.size;unfold ah at C;clear Y L D z M
   go_wp2_with (at_builtin;refine wpList_append_lies _ rfl _ _ 23 rfl n.heap.size 9 i0 _ 1 16 underlying23 hi0 aj ak al rfl (by decide) _ _ _ rfl C ⟨_,0,none⟩ 1 1 [.string pg] rfl rfl (cell_one_new _ _ _) (fun x hx=>by simp at hx;subst hx;rfl) (by omega) (by unfold maxLen;omega) (by omega) (by simp;omega) _ rfl ?_)
   intro g5 c5 u5 V U ab ae;have a7:Hid (ah u5 n.heap.size (.slice (some ⟨g5,0,none⟩) (R.length+1) c5) ((gs.take (k+1)).map pgT)):=by rw[X.out];exact ah.snoc V
   have a3:Hid (Below n.heap.size n u5):=Below.grown J.out U J.out.size (fun i hj=>(World.ownsRow.lt C i hj).1);clear V U C B J;go_wp2;exact⟨⟨k+1,by omega,by go_num,a7.out,fun j g hj _=>rfl,a3.out⟩,by simp[intOf];omega⟩
  .have ac:k=gs.length:=by omega
   subst ac;rw[List.take_length]at f;have D:Hid (ah wr w.heap.size u6 (gs.map pgT)):=by
    refine⟨f.1,?_⟩;rcases f.2 with h|⟨g,cap,a9,q1,q2,q3⟩
    .exact .inl h
    .exact .inr ⟨g,cap,a9,q1,Nat.le_trans I.out.size q2,q3⟩
   have z:=hZ (I.out.trans (A.mono I.out.size));clear f A;go_wp2;go_ret2;exact⟨_,rfl,fun gs' h=>by rw[a0.out gs' h];exact D.out,z.out⟩
theorem Xa {w:World} {a:Option Addr} {l:List Rw} {c:Nat}(t:dc w a l) (F:l.length<=c) (E:c<=9223372036854775807) (C:l.length<=1048576) :
  Calls prog 111 #[.slice a l.length c] w fun e w'=>∃ v,e=.returned (.tuple #[v,.bool (mc l).isSome])/\ah w' w.heap.size v ((mc l).getD [])/\Below w.heap.size w w':=by
 have b:=T1 t F E C;clear t
 cases hcut:nl l with
 | none =>
  rw[uv hcut];rw[hcut]at b;clear hcut;go_enter func111,ntmps111;go_wp2_with fail;refine b.mono ?_;rintro e I ⟨G,rfl,_,_,d⟩;clear b;go_wp2;go_ret2;exact⟨_,rfl,World.ownsRow_nil _ _ _ _,d⟩
 | some gs =>
  rw[uw hcut];obtain⟨B,i⟩:=Kq hcut;rw[hcut]at b;have p:Hid (Ak gs=some (gs.map pbT)):=O8 B (fun j g hg=>i g (List.mem_of_getElem? hg));have D:Hid (∀ g ∈ gs,g.length<=1048576):=fun g hg=>by
   have m:=i g hg;unfold io at m;simp only[Bool.and_eq_true]at m;have:=mj m.1.2;omega
  obtain⟨n,q⟩:∃ n,Hid (gs.map pbT=n):=⟨_,rfl⟩
  rw[q.out]at p ⊢;clear hcut i q;go_enter func111,ntmps111;go_wp2_with fail;refine b.mono ?_;rintro e I ⟨G,rfl,u,_,d⟩;obtain⟨K,r⟩:=u gs rfl;have k:=Zy r.bk (by omega) D.out;rw[p.out]at k;have f:=hZ d;clear b u r d;go_wp2_with fail;refine k.mono ?_;rintro e J ⟨H,rfl,o,s⟩;have y:Hid (ah J w.heap.size H n):=by
   refine⟨o.1,?_⟩;rcases o.2 with h|⟨g,z,A,q1,q2,q3⟩
   .exact .inl h
   .exact .inr ⟨g,z,A,q1,Nat.le_trans f.out.size q2,q3⟩
  have x:=hZ (f.out.trans (s.mono f.out.size));clear k o s;go_wp2;go_ret2;exact⟨_,rfl,y.out,x.out⟩
end Go.Proofs.YtjbmgghehdemdaaGreatDoor
