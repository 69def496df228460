/- IClass -/
import Derived.Test.YtjbmgghehdemdaaGreatDoorMR2
import Derived.Deep.WholeRow
import Derived.Deep.RegionHeld
namespace Go.Proofs.YtjbmgghehdemdaaGreatDoor
set_option maxRecDepth 100000
set_option maxHeartbeats 16000000
open _root_.Go.Proofs.Tryz
open Go.RowKit
def Cn:Array Value:=(ij.map (Value.int .i64)).toArray
theorem Eu (k:Nat) (a:k<15) (w:World):(Instr.index 278 (.agg Cn) (.int .i64 k)).run prog w=.ok (.agg #[.int .i64 (at0 (ik.getD k []) 0),.int .i64 (at0 (ik.getD k []) 1)]) w:=by
 iterate 15 (rcases k with _|k;· kernel_rfl)
 omega
theorem a00:∀ t ∈ ik,cls (at0 t 0)=at0 t 1:=by decide
theorem Vw {r:Int}(h:∀ t ∈ ik,at0 t 0≠r):cls r=0:=by
 simp[ik,at0]at h
 unfold cls;repeat' split
 all_goals omega
def Lw (r:Int) (k:Nat):Prop:=∀ j,j<k->at0 (ik.getD j []) 0≠r
theorem nj (r:Int) (w:World) (v:db w 7 ij):Calls prog 213 #[.int .i64 r] w fun e w'=>e=.returned (.int .i64 (cls r))/\Below w.heap.size w w':=by
 obtain⟨t,o,l⟩:=v;have p:w.heap[7]? = some (.cells Cn t o):=l;clear l;go_enter func213,ntmps213;go_wp2_with (refine wpList_load_row rfl 278 (.global 7) rfl 7 rfl t Cn o _ p underlying278 rfl (by kernel_rfl) ?_)
 clear p;go_loopw [6] (fun i wr=>∃ k:Nat,k<=15/\i=.int .i64 k/\Hid (Lw r k)/\Below w.heap.size w wr) (fun i _=>15-(intOf i).toNat)
 case atStart=>exact⟨0,Nat.zero_le _,rfl,fun j f=>by omega,bX⟩
 case round =>
  obtain⟨k,C,rfl,d,c⟩:=hrel;by_cases m:k<15
  .have B:=fun w=>Eu k m w
   have g:ik.getD k [] ∈ ik:=by
    rw[List.getD_eq_getElem?_getD,List.getElem?_eq_getElem (show k<ik.length from m)];exact List.getElem_mem _
   have u:Hid (cls (at0 (ik.getD k []) 0)=at0 (ik.getD k []) 1):=a00 _ g;have n:Hid (at0 (ik.getD k []) 0≠r->Lw r (k+1)):=fun h j f=>by
    by_cases e:j=k
    .subst e;exact h
    .exact d.out j (by omega)
   clear d g;generalize at0 (ik.getD k []) 0=a at *;generalize at0 (ik.getD k []) 1=b at *;have x:(k:Int)<15:=by omega
   by_cases e:a=r
   .subst e
    go_wp2;go_ret;exact⟨Wp u.out.symm,c.alloc c.size _⟩
   .have y:(a == r)=false:=by simpa using e
    have q:Hid (Lw r (k+1)):=n.out e;clear e n;go_wp2;exact⟨⟨k+1,by omega,by go_num,q,c.alloc c.size _⟩,by simp[intOf];omega⟩
  .have s:Hid (cls r=0):=Vw fun t g=>by
    obtain⟨j,f⟩:=List.mem_iff_getElem?.1 g;have z:=(List.getElem?_eq_some_iff.1 f).1;have A:ik.length=15:=rfl;have:=d.out j (by omega);rw[List.getD_eq_getElem?_getD,f]at this;exact this
   clear d;go_wp2;go_ret;exact⟨Wp s.out.symm,c⟩
def Own (w:World) (B g cap n:Nat) (l:List Int):Prop:=w.ownsRow B 3 1 (.slice (some ⟨g,0,none⟩) n cap) n (l.map (Value.int .i64))
theorem Own.len {w:World} {B g cap n:Nat} {l:List Int}(h:Own w B g cap n l):l.length=n:=by simpa using h.1
theorem Own.cell {w:World} {B g cap n:Nat} {l:List Int}(h:Own w B g cap n l) (j:Nat) (b:j<n):w.cell? ⟨g,j,none⟩=some (.int .i64 (at0 l j)):=by
 have a:=World.ownsRow.cellAt h j (by omega);rw[a];have:=h.len;simp[at0,show j<l.length by omega]
theorem nh {w w':World}(a:Below w.heap.size w w') (row:Option Nat):w.grownBy w' row:=⟨a.os,a.tape,a.output,a.size,fun k hk _=>a.block k hk⟩
theorem Ao (w:World) (row:Option Nat):w.grownBy w row:=⟨rfl,rfl,rfl,bR,fun _ _ _=>rfl⟩
theorem Own.below {w w':World} {B g cap n:Nat} {l:List Int}(h:Own w B g cap n l) (a:Below w.heap.size w w'):Own w' B g cap n l :=
 World.ownsRow.kept h (row:=none) (nh a none) (by cases hx:(Value.slice (some ⟨g,0,none⟩) n cap).ownBlock <;> simp)
theorem Vf {w w':World} {g h:Nat} {zs:List Int}(d:db w h zs) (c:w.grownBy w' (some g)) (a:h≠g):db w' h zs:=by
 obtain⟨t,b,e⟩:=d;refine⟨t,b,?_⟩;rw[c.block h ((Array.getElem?_eq_some_iff.1 e).1) (fun e=>a (Option.some.inj e))];exact e
def SH (w:World) (B g cap n:Nat) (l:List Int) (w':World):Prop:=Own w' B g cap n l/\w.grownBy w' (some g)/\db w' 7 ij
theorem SH.below {w w1 w2:World} {B g cap n:Nat} {l:List Int}(a:Below w1.heap.size w1 w2) (h:SH w B g cap n l w1):SH w B g cap n l w2 :=
 ⟨h.1.below a,h.2.1.trans (nh a _),h.2.2.below a h.2.2.lt⟩
theorem SH.drew {w w1:World} {B g cap n:Nat} {l:List Int}(h:SH w B g cap n l w1):SH w B g cap n l w1.drew:=h.below (bX.drew)
theorem SH.cell {w w1:World} {B g cap n:Nat} {l:List Int}(h:SH w B g cap n l w1) (j:Nat) (a:j<n):w1.cell? ⟨g,j,none⟩=some (.int .i64 (at0 l j)):=h.1.cell j a
theorem Vl {w w1 w2:World} {B g cap n i j:Nat} {l:List Int}(hi:i<n) (b:j<n) (a:Below w1.heap.size w1 w2) (h:w1.cell? ⟨g,i,none⟩=some (.int .i64 (at0 l i))/\w1.cell? ⟨g,j,none⟩=some (.int .i64 (at0 l j))/\SH w B g cap n l w1) :
  w2.cell? ⟨g,i,none⟩=some (.int .i64 (at0 l i))/\w2.cell? ⟨g,j,none⟩=some (.int .i64 (at0 l j))/\SH w B g cap n l w2 :=
 ⟨(h.2.2.below a).cell i hi,(h.2.2.below a).cell j b,h.2.2.below a⟩
theorem aq6 {w w1:World} {B g cap n:Nat} {l:List Int}(m:7<B) (h:SH w B g cap n l w1) (i j:Nat) :
  SH w B g cap n ((l.set i (at0 l j)).set j (at0 l i)) ((w1.setCell ⟨g,i,none⟩ (.int .i64 (at0 l j))).setCell ⟨g,j,none⟩ (.int .i64 (at0 l i))):=by
 have a:=World.ownsRow.stored h.1 i (.int .i64 (at0 l j));have b:=World.ownsRow.stored a.1 j (.int .i64 (at0 l i));have k:((l.map (Value.int .i64)).set i (.int .i64 (at0 l j))).set j (.int .i64 (at0 l i))=((l.set i (at0 l j)).set j (at0 l i)).map (Value.int .i64):=by simp[List.map_set]
 have c:=b.1;rw[k]at c;have d:=a.2.trans b.2;have f:7≠g:=fun e=>by
  have:=(World.ownsRow.lt h.1 g rfl).1;omega
 exact⟨c,h.2.1.trans d,Vf h.2.2 d f⟩
def b25 (w:World) (B g cap n f m:Nat) (l:List Int) (i:Value) (wr:World):Prop:=∃ k:Nat,k<=m/\i=.int .i64 k/\SH w B g cap n (uv f l k) wr
def SIn (w:World) (B g cap n f m:Nat) (goal:List Int) (i:Value) (wr:World):Prop:=∃ (j:Nat) (l:List Int),j<m/\i=.int .i64 j/\SH w B g cap n l wr/\uq f l j=goal
theorem Id (w:World) (B g cap n f m c:Nat) (l:List Int) (u:Own w B g cap n l) (E:7<B) (Q:f+m<=n) (T:n<=1048576) (y:db w 7 ij) :
  Calls prog 225 #[.slice (some ⟨g,f,none⟩) m c,.func (.func 213) #[] #[]] w fun e w'=>e=.returned (.tuple #[])/\SH w B g cap n (uv f l m) w':=by
 go_enter func225,ntmps225;go_wp2;go_loopw [8] (fun i wr=>b25 w B g cap n f m l i wr) (fun i _=>m-(intOf i).toNat)
 case atStart=>exact⟨0,Nat.zero_le _,rfl,u,Ao _ _,y⟩
 case round =>
  clear u y;obtain⟨k,S,rfl,b⟩:=hrel;by_cases C:k<m
  .go_wp2_with fail
   go_loopw [5] (fun i wr=>SIn w B g cap n f m (uv f l (k+1)) i wr) (fun i _=>(intOf i).toNat)
   case atStart=>exact⟨k,uv f l k,C,rfl,b,rfl⟩
   case round =>
    clear b;obtain⟨j,a,R,rfl,b,t⟩:=hrel;have q:Hid _:=t;clear t
    cases j with
    | zero =>
     go_wp2;go_quiet (fail)
     go_wp2;have r:a=uv f l (k+1):=q.out;subst r;exact⟨⟨k+1,by omega,by go_num,b.below (below_drewN bX _)⟩,by simp[intOf];omega⟩
    | succ p =>
     have h:f+p<n:=by omega
     have o:f+(p+1)<n:=by omega
     have I:p<m:=by omega
     have J:IntKind.i64.wrap ((p:Int)+1-1)=(p:Int):=by rw[IntKind.wrap_i64];omega
     have K:IntKind.i64.wrap (((p+1:Nat):Int)-1)=(p:Int):=by rw[IntKind.wrap_i64];omega
     have L:IntKind.i64.wrap (p:Int)=(p:Int):=by rw[IntKind.wrap_i64];omega
     have G:(p:Int)<(m:Int):=by omega
     have H:(p:Int)+1<(m:Int):=by omega
     have x:wr.cell? ⟨g,f+p,none⟩=some (.int .i64 (at0 a (f+p)))/\wr.cell? ⟨g,f+(p+1),none⟩=some (.int .i64 (at0 a (f+(p+1))))/\SH w B g cap n a wr:=⟨b.cell _ h,b.cell _ o,b⟩;have s:=Vl h o ((Below.refl wr.heap.size wr).drew) x;go_wp2_with fail;go_region_held (fun w'=>w'.cell? ⟨g,f+p,none⟩=some (.int .i64 (at0 a (f+p)))/\w'.cell? ⟨g,f+(p+1),none⟩=some (.int .i64 (at0 a (f+(p+1))))/\SH w B g cap n a w')
      (first|exact s|exact Vl h o (by assumption) (by assumption)|exact Vl h o (by assumption) ⟨by assumption,by assumption,by assumption⟩)
      (first|(go_at_call 213;refine (nj _ _ ?_).mono ?_;(first|exact (show SH w B g cap n a _ by assumption).2.2|exact (show _/\_/\SH w B g cap n a _ by assumption).2.2.2.2);rintro e w' ⟨rfl,F⟩))
     all_goals
      have d:SH w B g cap n a w':=(show w'.cell? ⟨g,f+p,none⟩=_/\_/\SH w B g cap n a w' by assumption).2.2;clear x s b;by_cases v:cls (at0 a (f+(p+1)))<cls (at0 a (f+p))
      .have z:Hid (uq f ((a.set (f+p) (at0 a (f+(p+1)))).set (f+(p+1)) (at0 a (f+p))) p=uv f l (k+1)):=(Sh f a p v).symm.trans q.out
       have D:=aq6 E d (f+p) (f+(p+1));have M:=d.cell _ h;have N:=d.cell _ o;have O:=World.ownsRow.frozenAt d.1 (f+p);have P:=World.ownsRow.frozenAt d.1 (f+(p+1));clear q d;go_wp2_with fail;go_region
       all_goals go_wp2
       all_goals exact⟨⟨p,_,by omega,rfl,SH.drew D,z.out⟩,by simp[intOf]⟩
      .have r:a=uv f l (k+1):=(Jh f a p v).symm.trans q.out
       clear q;go_wp2;subst r;exact⟨⟨k+1,by omega,by go_num,d⟩,by simp[intOf];omega⟩
  .have A:k=m:=by omega
   subst A;go_wp2;go_end0
   exact⟨rfl,b⟩
theorem SH.from {w w1 w2:World} {B g cap n:Nat} {l l':List Int}(h:SH w B g cap n l w1) (k:SH w1 B g cap n l' w2):SH w B g cap n l' w2:=⟨k.1,h.2.1.trans k.2.1,k.2.2⟩
theorem Fa (w:World) (a:Option Addr) (c:Nat):Calls prog 225 #[.slice a 0 c,.func (.func 213) #[] #[]] w fun e w'=>e=.returned (.tuple #[])/\w'=w:=by
 go_enter func225,ntmps225;go_wp2;go_loop [8] (fun i=>i=.int .i64 0) (fun _=>0)
 case atStart=>rfl
 case round =>
  subst hrel;go_wp2;go_end0
  exact⟨rfl,rfl⟩
theorem D7 (w:World):Calls prog 212 #[.slice none 0 0] w fun e w'=>e=.returned (.tuple #[])/\w'=w:=by
 have b:=fun w a c=>Fa w a c
 go_enter func212,ntmps212;go_wp2;go_loop [2,7] (fun f i=>f=.int .i64 0/\i=.int .i64 0) (fun _ _=>0)
 case atStart=>exact⟨rfl,rfl⟩
 case round =>
  obtain⟨rfl,rfl⟩:=hrel;go_wp2_with (go_at_call 225;refine (b _ _ _).mono ?_;rintro e d ⟨rfl,rfl⟩)
  go_end0
  exact⟨rfl,rfl⟩
def b23 (w:World) (B g cap n:Nat) (zs:List Int) (fv i:Value) (wr:World):Prop :=
 ∃ f a:Nat,f<=a/\a<=n/\fv=.int .i64 f/\i=.int .i64 a/\SH w B g cap n (srt zs f) wr/\(∀ j,f<=j->j<a->0<cls (at0 zs j))/\(f=0\/cls (at0 (srt zs f) (f-1))=0)
theorem Pc (w:World) (B g cap n:Nat) (zs:List Int) (r:Own w B g cap n zs) (F:7<B) (H:n<=1048576) (G:db w 7 ij) :
  Calls prog 212 #[.slice (some ⟨g,0,none⟩) n cap] w fun e w'=>e=.returned (.tuple #[])/\SH w B g cap n (mc zs) w':=by
 have A:zs.length=n:=r.len;have M:n<=cap/\cap<=maxLen:=by
  rcases r.2 with ⟨h,_⟩|⟨g',X,Y,h,_,_,q,U,_⟩
  .cases h
  .injection h with _ _ V;subst V;exact⟨q,U⟩
 obtain⟨a2,L⟩:=M;unfold maxLen at L;go_enter func212,ntmps212;go_wp2;go_loopw [2,7] (fun fv i wr=>b23 w B g cap n zs fv i wr) (fun _ i _=>n-(intOf i).toNat)
 case atStart=>exact⟨0,0,bR,Nat.zero_le _,rfl,rfl,⟨r,Ao _ _,G⟩,fun j _ hj=>by omega,.inl rfl⟩
 case round =>
  clear r G;obtain⟨f,a,P,a1,rfl,rfl,b,u,v⟩:=hrel;have k:Hid _:=u;have m:=hZ v;clear u v;by_cases Q:a<n
  .have E:=b.cell a Q
   rw[yo zs f a P]at E;have C:=nj (at0 zs a) wr b.2.2;generalize hx:at0 zs a=x at *;have Z:(a:Int)<(n:Int):=by omega
   go_wp2_with fail;refine C.mono ?_;rintro e W ⟨rfl,s⟩;have p:=b.below s;clear C E;by_cases e:cls x=0
   .have S:(cls x == 0)=true:=by simpa using e
    have o:=Id W B g cap n f (a-f) (cap-f) (srt zs f) p.1 F (by omega) H p.2.2;have O:(f:Int)<=(a:Int):=by omega
    have a0:(a:Int)<=(cap:Int):=by omega
    have c:=Ph (f:=f) (a-f) zs (by omega) m.out (fun j h1 q=>k.out j h1 (by omega));rw[show f+(a-f)=a by omega]at c;have l:Hid (uv f (srt zs f) (a-f)=srt zs (a+1)):=by
     show _=_
     rw[c.1,Fc zs a (by rw[hx];exact e)]
    have R:Hid (a+1=0\/cls (at0 (srt zs (a+1)) (a+1-1))=0):=by
     refine .inr ?_;rw[Fc zs a (by rw[hx];exact e),Nat.add_sub_cancel,yo zs a a bR,hx];exact e
    clear b c k m e hx;go_wp2_with fail;refine o.mono ?_;rintro e I ⟨rfl,d⟩;rw[l.out]at d;have t:=p.from d
    clear o l p d s;go_wp2;exact⟨⟨a+1,a+1,bR,by omega,by go_num,by go_num,t,fun j h1 q=>by omega,R.out⟩,by simp[intOf];omega⟩
   .have S:(cls x == 0)=false:=by simpa using e
    have J:Hid (∀ j,f<=j->j<a+1->0<cls (at0 zs j)):=fun j h1 q=>by
     by_cases T:j=a
     .subst T;rw[hx];have:=(Yg x).1;omega
     .exact k.out j h1 (by omega)
    clear b k e hx s;go_wp2;exact⟨⟨f,a+1,by omega,by omega,by go_num,by go_num,p,J.out,m.out⟩,by simp[intOf];omega⟩
  .have K:a=n:=by omega
   subst K;have o:=Id wr B g cap a f (a-f) (cap-f) (srt zs f) b.1 F (by omega) H b.2.2;have c:=Ph (f:=f) (a-f) zs (by omega) m.out (fun j h1 q=>k.out j h1 (by omega));rw[show f+(a-f)=a by omega]at c;have l:Hid (uv f (srt zs f) (a-f)=mc zs):=by
    show _=_
    rw[c.1,mc,A]
   have O:(f:Int)<=(a:Int):=by omega
   by_cases N:cap=f
   .have z:a=f:=by omega
    have D:Hid (srt zs f=mc zs):=by
     show _=_
     rw[mc,A,z]
    clear c k m o l;subst z;subst N;have y:=Fa wr (some ⟨g,0,none⟩) 0;go_wp2_with fail;refine y.mono ?_;rintro e I ⟨rfl,rfl⟩;rw[D.out]at b;clear y D;go_wp2;go_end0
    exact⟨rfl,b⟩
   .clear c k m
    go_wp2_with fail;refine o.mono ?_;rintro e I ⟨rfl,d⟩;rw[l.out]at d;have t:=b.from d
    clear o l b d;go_wp2;go_end0
    exact⟨rfl,t⟩
theorem ad5 {zs:List Int}(h:200<zs.length):okR zs=false:=decide_eq_false fun c=>by omega
theorem ap0 {zs:List Int} {x:Int}(a:x ∈ zs) (h:bp x=false):okR zs=false:=decide_eq_false fun c=>by
 have:=c.2 x a;rw[h]at this;cases this
theorem Hi (w:World) (a:Option Addr) (c:Nat):Calls prog 210 #[.slice a 0 c] w fun e w'=>e=.returned (.bool true)/\w'=w:=by
 go_enter func210,ntmps210;go_wp2;go_loop [10] (fun i=>i=.int .i64 0) (fun _=>0)
 case atStart=>rfl
 case round =>
  subst hrel;go_wp2;go_ret;exact⟨rfl,rfl⟩
theorem V8 (w:World) (a:Option Addr) (n c:Nat) (h:200<n):Calls prog 210 #[.slice a n c] w fun e w'=>e=.returned (.bool false)/\w'=w:=by
 have b:(200:Int)<(n:Int):=by omega
 go_enter func210,ntmps210;go_wp2;go_ret;exact⟨rfl,rfl⟩
theorem Zf (w:World) (g cap:Nat) (zs:List Int) (o:zs.length<=200)
  (c:∀ j,j<zs.length->w.cell? ⟨g,j,none⟩=some (.int .i64 (zs[j]?.getD 0))) :
  Calls prog 210 #[.slice (some ⟨g,0,none⟩) zs.length cap] w fun e w'=>e=.returned (.bool (okR zs))/\w'=w:=by
 have q:¬ (200:Int)<(zs.length:Int):=by omega
 go_enter func210,ntmps210;go_wp2;go_loop [10] (fun i=>∃ k:Nat,k<=zs.length/\i=.int .i64 k/\Hid (A5 zs k)) (fun i=>zs.length-(intOf i).toNat)
 case atStart=>exact⟨0,Nat.zero_le _,rfl,fun j x hj=>by omega⟩
 case round =>
  obtain⟨k,s,rfl,h⟩:=hrel;by_cases d:k<zs.length
  .obtain⟨x,a⟩:∃ x,zs[k]? = some x:=⟨_,List.getElem?_eq_getElem d⟩
   have b:=c k d;rw[a]at b;have r:w.cell? ⟨g,k,none⟩=some (.int .i64 x):=b
   cases hgx:bp x
   .have P:=fun w=>Eq x hgx w
    have m:Hid (false=okR zs):=(ap0 (List.mem_of_getElem? a) hgx).symm;clear c b a hgx;go_wp2_with (go_at_call 223;refine (P _).mono ?_;rintro e p ⟨rfl,rfl⟩)
    go_ret;exact⟨jj m.out,rfl⟩
   .have P:=fun w=>Ce x hgx w
    have l:Hid (A5 zs (k+1)):=h.out.succ a hgx;clear c b a hgx;go_wp2_with (go_at_call 223;refine (P _).mono ?_;rintro e p ⟨rfl,rfl⟩)
    exact⟨⟨k+1,by omega,by go_num,l⟩,by simp[intOf];omega⟩
  .have f:=h.out.all d
   have n:Hid (true=okR zs):=(decide_eq_true (⟨o,f⟩:zs.length<=200/\∀ x ∈ zs,bp x=true)).symm;clear c f;go_wp2;go_ret;exact⟨jj n.out,rfl⟩
theorem K8 {w:World} {B:Nat} {v:Value} {zs:List Int}(a:ab w B v zs) :
  Calls prog 210 #[v] w fun e w'=>e=.returned (.bool (okR zs))/\w'=w:=by
 rcases a.form with ⟨rfl,rfl⟩|⟨g,b,rfl,c,d⟩
 .have:okR []=true:=decide_eq_true ⟨by simp,by simp⟩
  rw[this];exact Hi w _ _
 .by_cases h:zs.length<=200
  .exact Zf w g b zs h (fun j hj=>a.cell j hj)
  .rw[ad5 (by omega)]
   exact V8 w _ _ _ (by omega)
def blk (l:List Int) (r:Int):Bool:=l.any fun b=>cls b == 0 || decide (cls r<=cls b)
def A4 (l:List Int) (r:Int) (k:Nat):Prop:=∀ j b,j<k->l[j]? = some b->¬ (cls b=0\/cls r<=cls b)
theorem Sg {l:List Int} {r b:Int} {k:Nat}(a:l[k]? = some b) (h:cls b=0\/cls r<=cls b):blk l r=true :=
 List.any_eq_true.2 ⟨b,List.mem_of_getElem? a,by simpa using h⟩
theorem a75 {l:List Int} {r:Int} {k:Nat}(h:A4 l r k) (c:¬ k<l.length):blk l r=false:=by
 refine List.any_eq_false.2 fun b hb=>?_
 obtain⟨j,a⟩:=List.mem_iff_getElem?.1 hb;have:=(List.getElem?_eq_some_iff.1 a).1;simpa using h j b (by omega) a
theorem A4.succ {l:List Int} {r b:Int} {k:Nat}(h:A4 l r k) (d:l[k]? = some b) (f:¬ (cls b=0\/cls r<=cls b)):A4 l r (k+1):=by
 intro j c g a;by_cases e:j=k
 .subst e;rw[d]at a;cases a;exact f
 .exact h j c (by omega) a
def b21 (w:World) (l:List Int) (r:Int) (i:Value) (wr:World):Prop:=∃ k:Nat,k<=l.length/\i=.int .i64 k/\A4 l r k/\Below w.heap.size w wr
theorem Q7 (w:World) (g f c:Nat) (l:List Int) (r:Int) (K:l.length<=1048576) (G:g<w.heap.size) (t:∀ j b,l[j]? = some b->w.cell? ⟨g,f+j,none⟩=some (.int .i64 b)) (u:db w 7 ij) :
  Calls prog 214 #[.slice (some ⟨g,f,none⟩) l.length c,.int .i64 r] w fun e w'=>e=.returned (.bool (blk l r))/\Below w.heap.size w w':=by
 have B:=nj r w u;go_enter func214,ntmps214;go_wp2_with fail;refine B.mono ?_;rintro e L ⟨rfl,y⟩;clear B;go_wp2_with fail;go_loopw [13] (fun i wr=>b21 w l r i wr) (fun i _=>l.length-(intOf i).toNat)
 case atStart=>exact⟨0,Nat.zero_le _,rfl,fun j b hj=>by omega,y⟩
 case round =>
  clear y;obtain⟨k,J,rfl,x,n⟩:=hrel;have d:=hZ x;clear x;by_cases A:k<l.length
  .obtain⟨b,v⟩:∃ b,l[k]? = some b:=⟨_,List.getElem?_eq_getElem A⟩
   have D:=t k b v;rw[<- n.cell (p:=⟨g,f+k,none⟩) G]at D;have C:=nj b wr (u.below n u.lt);have I:(k:Int)<(l.length:Int):=by omega
   have m:Hid _:=v;clear v;go_wp2_with fail;refine C.mono ?_;rintro e M ⟨rfl,z⟩;have s:=n.trans (z.mono n.size);clear C D z n t;by_cases a:cls b=0
   .have o:Hid (true=blk l r):=(Sg m.out (.inl a)).symm
    have E:(cls b == 0)=true:=by simpa using a
    clear d m a;go_wp2;go_ret;exact⟨jj o.out,s⟩
   .have E:(cls b == 0)=false:=by simpa using a
    by_cases q:cls r<=cls b
    .have o:Hid (true=blk l r):=(Sg m.out (.inr q)).symm
     clear d m a;go_wp2;go_ret;exact⟨jj o.out,s⟩
    .have F:Hid (A4 l r (k+1)):=d.out.succ m.out (fun h=>h.elim a q)
     have H:decide (cls r<=cls b)=false:=by simpa using q
     clear d m a q;go_wp2;exact⟨⟨k+1,by omega,by go_num,F.out,s⟩,by simp[intOf];omega⟩
  .have o:Hid (false=blk l r):=(a75 d.out A).symm
   clear d t;go_wp2;go_ret;exact⟨jj o.out,n⟩
end Go.Proofs.YtjbmgghehdemdaaGreatDoor
