/- IApart -/
import Derived.Test.YtjbmgghehdemdaaGreatDoorMR3
import Derived.Test.YtjbmgghehdemdaaGreatDoorMR5
import Derived.Test.YtjbmgghehdemdaaGreatDoorMR8
import Derived.Test.YtjbmgghehdemdaaGreatDoorMR23
import Derived.Test.YtjbmgghehdemdaaGreatDoorMR12
import Derived.Test.YtjbmgghehdemdaaGreatDoorMR6
import Derived.Lib.Strings
import Derived.Lib.CutLaws
import Derived.Lib.TrimByte
namespace Go.Proofs.YtjbmgghehdemdaaGreatDoor
set_option maxRecDepth 100000
set_option maxHeartbeats 16000000
open _root_.Go.Proofs.Tryz
open Go.RowKit
theorem yf (w:World) (o:Obj) (zs:List Int) (n B:Nat) (b:zs.length=n) (c:n<=maxLen) (cs:Array Value) (a:cs=(zs.map (Value.int .i64)).toArray) (d:B<=w.heap.size):ab ((w.alloc o).alloc (.cells cs 3)) B (.slice (some ⟨w.heap.size+1,0,none⟩) n n) zs:=by
 subst b;exact f3 zs a (heap_alloc2_new w o _) (by omega) c
theorem Pk (w:World) (r:Int) (h1:44032<=r) (h2:r<=55203) :
  Calls prog 231 #[.int .i64 (r-44032)] w fun e w'=>∃ v,e=.returned v/\ab w' w.heap.size v (apart r)/\Below w.heap.size w w':=by
 have a:=Da h1 h2;obtain⟨s,d⟩:∃ s,r-44032=s:=⟨_,rfl⟩
 have g:0<=s:=by omega
 have h:s<=11171:=by omega
 rw[d]at a ⊢;by_cases c:0<s % 28
 .have b:Hid (apart r=[4352+s / 588,4449+s % 588 / 28,4519+s % 28]):=by show _=_;rw[a,if_pos c];rfl
  have f:(s % 28 == 0)=false:=by simp;omega
  clear a d;go_enter func231,ntmps231;go_wp2;go_ret;rw[b.out];exact⟨_,rfl,qh w _ 3 rfl (by unfold maxLen;omega) _ rfl,bY _⟩
 .have b:Hid (apart r=[4352+s / 588,4449+s % 588 / 28]):=by show _=_;rw[a,if_neg c];rfl
  have f:(s % 28 == 0)=true:=by simp;omega
  clear a d;go_enter func231,ntmps231;go_wp2;go_ret;rw[b.out];exact⟨_,rfl,qh w _ 2 rfl (by unfold maxLen;omega) _ rfl,bY _⟩
def zk (r:Int):List Int:=if bp r=true then apart r else []
theorem Bn (r:Int) (w:World) (i:db w 10 yw) (j:db w 11 xq) :
  Calls prog 224 #[.int .i64 r] w fun e w'=>∃ v,e=.returned v/\ab w' w.heap.size v (zk r)/\Below w.heap.size w w':=by
 unfold zk
 cases hg:bp r
 .have P:=fun w=>Eq r hg w
  rw[if_neg (by simp)];clear hg;go_enter func224,ntmps224;go_wp2_with (go_at_call 223;refine (P _).mono ?_;rintro e d ⟨rfl,rfl⟩)
  go_ret;exact⟨_,rfl,⟨rfl,.inl ⟨rfl,rfl⟩⟩,bX⟩
 .have P:=fun w=>Ce r hg w
  rw[if_pos rfl];have m:=l7 hg;clear hg;by_cases g:r=8491
  .subst g
   have y:apart 8491=[197]:=by decide
   rw[y];go_enter func224,ntmps224;go_wp2_with (go_at_call 223;refine (P _).mono ?_;rintro e d ⟨rfl,rfl⟩)
   go_ret;exact⟨_,rfl,qh _ [197] 1 rfl (by unfold maxLen;omega) _ rfl,bY _⟩
  .have B:(r == 8491)=false:=by simpa using g
   by_cases f:44032<=r/\r<=55203
   .obtain⟨z,A⟩:=f
    have u:=fun w=>Pk w r z A
    clear i j m g;go_enter func224,ntmps224;go_wp2_with fail;refine (P _).mono ?_;rintro e d ⟨rfl,rfl⟩;go_wp2_with fail;refine (u _).mono ?_;rintro e s ⟨v,rfl,x,c⟩;go_wp2;go_ret;exact⟨_,rfl,x,c⟩
   .have n:=fun w i j=>Ne r w i j
    have k:Hid (apart r=match o5.find? (fun t=>at0 t 0 == r) with|some t=>[at0 t 1,at0 t 2]|none=>[r]):=by
     show _=_
     rw[Xh];unfold apart;rw[if_neg g,if_neg f];rfl
    have p:(decide (44032<=r) && decide (r<=55203))=false:=by
     cases h:(decide (44032<=r) && decide (r<=55203)) with
     | false=>rfl
     | true=>simp at h;exact absurd h f
    generalize o5.find? (fun t=>at0 t 0 == r)=o at *;have l:∀ {d:World},db d 10 yw->db d 11 xq->Hid (Calls prog 232 #[.int .i64 r] d fun e w'=>e=.returned (qq o)/\Below d.heap.size d w'):=fun a b=>n _ a b
    clear n g m;by_cases q:44032<=r
    .have q2:¬ r<=55203:=fun h=>f ⟨q,h⟩
     clear f p;go_enter func224,ntmps224;go_wp2_with fail;refine (P _).mono ?_;rintro e d ⟨rfl,rfl⟩;go_wp2_with fail;refine ((l i j).out).mono ?_;rintro e s ⟨rfl,c⟩
     cases o with
     | none =>
      simp only[qq,pv,Option.getD,Option.isSome];go_wp2;go_ret;rw[k.out];exact⟨_,rfl,yf _ _ [r] 1 _ rfl (by unfold maxLen;omega) _ rfl c.size,((c.alloc c.size _).alloc (c.alloc c.size _).size _)⟩
     | some t =>
      simp only[qq,pv,Option.getD,Option.isSome];go_wp2;go_ret;rw[k.out];exact⟨_,rfl,yf _ _ [at0 t 1,at0 t 2] 2 _ rfl (by unfold maxLen;omega) _ rfl c.size,((c.alloc c.size _).alloc (c.alloc c.size _).size _)⟩
    .clear f p
     go_enter func224,ntmps224;go_wp2_with fail;refine (P _).mono ?_;rintro e d ⟨rfl,rfl⟩;go_wp2_with fail;refine ((l i j).out).mono ?_;rintro e s ⟨rfl,c⟩
     cases o with
     | none =>
      simp only[qq,pv,Option.getD,Option.isSome];go_wp2;go_ret;rw[k.out];exact⟨_,rfl,yf _ _ [r] 1 _ rfl (by unfold maxLen;omega) _ rfl c.size,((c.alloc c.size _).alloc (c.alloc c.size _).size _)⟩
     | some t =>
      simp only[qq,pv,Option.getD,Option.isSome];go_wp2;go_ret;rw[k.out];exact⟨_,rfl,yf _ _ [at0 t 1,at0 t 2] 2 _ rfl (by unfold maxLen;omega) _ rfl c.size,((c.alloc c.size _).alloc (c.alloc c.size _).size _)⟩
theorem Nb {w wr w2:World} {row a:Option Nat}(h:w.grownBy wr row) (h2:wr.grownBy w2 a) (b:a=row\/∀ g,a=some g->w.heap.size<=g):w.grownBy w2 row:=by
 refine⟨h2.os.trans h.os,h2.tape.trans h.tape,h2.output.trans h.output,Nat.le_trans h.size h2.size,fun k hk hne=>?_⟩;rw[h2.block k (Nat.lt_of_lt_of_le hk h.size) ?_]
 .exact h.block k hk hne
 .rcases b with rfl|b
  .exact hne
  .intro e
   have:=b k e.symm;omega
theorem Eo {w w':World} {h:Nat} {row:Option Nat} {zs:List Int}(f:db w h zs) (d:w.grownBy w' row) (a:row≠some h):db w' h zs:=by
 obtain⟨t,b,e⟩:=f;refine⟨t,b,?_⟩;rw[d.block h ((Array.getElem?_eq_some_iff.1 e).1) (fun c=>a c.symm)];exact e
def tj (w:World) (B:Nat) (l:Value) (acc:List Int) (v:Value) (w':World):Prop:=ab w' B v acc/\w.grownBy w' l.ownBlock/\(v.ownBlock=l.ownBlock\/∀ g,v.ownBlock=some g->w.heap.size<=g)
def yt (w:World):Prop:=db w 10 yw/\db w 11 xq
theorem yt.below {w w':World}(h:yt w) (a:Below w.heap.size w w'):yt w':=⟨h.1.below a h.1.lt,h.2.below a h.2.lt⟩
theorem a12 {w:World} {B h:Nat} {l:Value} {acc:List Int}(a:ab w B l acc) (b:h<B):l.ownBlock≠some h:=fun e=>by
 have:=(World.ownsRow.lt a h e).1;omega
theorem M1 (n:Nat) (r:Int) (w:World) (B:Nat) (l:Value) (acc:List Int) (h:apart r=[r]) (c:bp r=true) (u:ab w B l acc) (I:acc.length<=4000) (H:B<=w.heap.size) (ht:yt w) :
  Calls prog 211 #[l,.int .i64 r] w fun e w'=>∃ v,e=.returned v/\tj w B l (acc++full n r) v w':=by
 obtain⟨z,y,s,p,q⟩:=info_parts dv;have A:=Bn r w ht.1 ht.2;rw[show zk r=[r] by unfold zk;rw[if_pos c,h]]at A;rw[og h];clear h c ht;go_enter func211,ntmps211;go_wp2_with fail;refine A.mono ?_;rintro e d ⟨v,rfl,b,a⟩;obtain⟨g,C,rfl⟩:=jr b (by simp);have G:=ji b 0 r rfl;simp only[List.length_cons,List.length_nil]at b;have f:=u.below a;have o:d.ownsRow B 3 1 l acc.length (acc.map (Value.int .i64)):=f;have F:=a.size;clear A
 go_wp2_with (at_builtin;refine wpList_append_lies _ rfl _ _ 39 rfl B 3 z (.int .i64 0) 1 8 underlying39 y s p q rfl (by decide) _ _ _ rfl (o.alloc _) ⟨_,0,none⟩ 1 1 [.int .i64 r] rfl rfl (cell_one_new _ _ _) (fun x hx=>by simp at hx;subst hx;rfl) (by omega) (by unfold maxLen;omega) (by omega) (by simp;omega) (d.heap.size+1) (by simp) ?_;intro t D J m j i E)
 go_ret;refine⟨_,rfl,ab.snoc m,?_,?_⟩
 .exact (nh (a.alloc a.size _) _).trans j
 .rcases i with e|e
  .exact .inl e.symm
  .refine .inr fun k hk=>?_
   have:t=k:=Option.some.inj hk;omega
def Lu (w:World) (B:Nat) (l:Value) (acc:List Int) (gp cp:Nat) (f:Int->List Int) (ls:List Int) (lv i:Value) (wr:World):Prop :=
 ∃ k:Nat,k<=ls.length/\i=.int .i64 k/\tj w B l (acc++(ls.take k).flatMap f) lv wr/\ab wr w.heap.size (.slice (some ⟨gp,0,none⟩) ls.length cp) ls/\lv.ownBlock≠some gp/\yt wr/\w.heap.size<=wr.heap.size
theorem Je {w wr w2:World} {B k a j:Nat} {l lv v:Value} {acc ls:List Int} {f:Int->List Int} {x:Int}(u:k<ls.length) (z:ls[k]? = some x) (q:10<B) (r:11<B)
  (y:tj w B l (acc++(ls.take k).flatMap f) lv wr) (m:ab wr w.heap.size (.slice (some ⟨a,0,none⟩) ls.length j) ls) (d:lv.ownBlock≠some a) (ht:yt wr) (i:w.heap.size<=wr.heap.size)
  (h2:tj wr B lv (acc++(ls.take k).flatMap f++f x) v w2):Lu w B l acc a j f ls v (.int .i64 ((k:Int)+1)) w2:=by
 obtain⟨n,t,o⟩:=y;obtain⟨A,b,p⟩:=h2;have s:lv.ownBlock=l.ownBlock\/∀ g,lv.ownBlock=some g->w.heap.size<=g:=o
 have C:a<wr.heap.size:=(World.ownsRow.lt m a rfl).2;refine⟨k+1,u,by go_num,⟨?_,Nb t b s,?_⟩,World.ownsRow.kept m b (.inr fun e=>d e.symm),?_,⟨Eo ht.1 b (a12 n q),Eo ht.2 b (a12 n r)⟩,Nat.le_trans i b.size⟩
 .rw[Dc z,<- List.append_assoc];exact A
 .rcases p with e|e
  .rcases o with c|c
   .exact .inl (e.trans c)
   .exact .inr fun g hg=>c g (e ▸ hg)
  .exact .inr fun g hg=>Nat.le_trans i (e g hg)
 .rcases p with e|e
  .rw[e];exact d
  .intro h
   have:=e a h;omega
theorem b06 (n:Nat) (a5:n<=2):∀ (r:Int) (w:World) (B:Nat) (l:Value) (acc:List Int),qg n r=true->bp r=true->ab w B l acc->acc.length+3 ^ n<=4000->B<=w.heap.size->10<B->11<B->yt w ->
  Calls prog 211 #[l,.int .i64 r] w fun e w'=>∃ v,e=.returned v/\tj w B l (acc++full n r) v w':=by
 induction n with
 | zero=>exact fun r w B l acc h s o I H _ _ p=>M1 0 r w B l acc (Kh h) s o (Nat.le_trans (Nat.le_add_right _ _) I) H p
 | succ n ih0 =>
  intro r w B l acc S s o I H J K p;have Z:=ih0 (by omega);by_cases t:apart r=[r]
  .exact M1 _ r w B l acc t s o (Nat.le_trans (Nat.le_add_right _ _) I) H p
  .have T:=(Kg S).resolve_left t
   have R:=Gm s;have A:=Bn r w p.1 p.2;rw[show zk r=apart r by unfold zk;rw[if_pos s]]at A;have a2:=tm r;have X:=wi (n:=n) t;have Q:3 ^ (n+1)=3*3 ^ n:=by rw[Nat.pow_succ];omega
   have U:Hid (∀ k,k<(apart r).length->(acc++((apart r).take k).flatMap (full n)).length+3 ^ n<=4000):=fun k Y=>by
    have q:=pr (full n) (3 ^ n) ((apart r).take k) (Fp n);have f:((apart r).take k).length*3 ^ n<=2*3 ^ n:=Nat.mul_le_mul_right _ (by simp;omega);rw[List.length_append];omega
   have W:Hid (∀ x ∈ apart r,∀ (w:World) (l:Value) (acc:List Int),ab w B l acc->acc.length+3 ^ n<=4000->B<=w.heap.size->yt w->Calls prog 211 #[l,.int .i64 x] w fun e w'=>∃ v,e=.returned v/\tj w B l (acc++full n x) v w') :=
    fun x a w l acc q f Q h4=>Z x w B l acc (T x a) (R x a) q f Q J K h4
   have V:Hid _:=X;clear Z ih0 S T R s X Q I;generalize apart r=ls at *;obtain⟨a3,a4⟩:=a2;by_cases q:ls.length=1
   .obtain⟨y,u⟩:∃ y,ls[0]? = some y:=⟨_,List.getElem?_eq_getElem (by omega)⟩
    have a6:(y == r)=false:=by
     simp only[beq_eq_false_iff_ne,ne_eq];intro e;subst e;apply t
     match ls,q,u with
     | [z],_,u=>simp at u;rw[u]
    have a0:((ls.length:Int) == 1)=true:=by simp;omega
    have a1:(0:Int)<(ls.length:Int):=by omega
    clear t;go_enter func211,ntmps211;go_wp2_with fail;refine A.mono ?_;rintro e w1 ⟨v,rfl,c,d⟩;obtain⟨g,C,rfl⟩:=jr c (by omega);have c0:=ji c 0 y u;clear A u q;have D:Lu w B l acc g C (full n) ls l (.int .i64 0) w1:=⟨0,Nat.zero_le _,rfl,⟨by simpa using o.below d,nh d _,.inl rfl⟩,c,fun e=>by
     have h5:=(World.ownsRow.lt o g e).2;have h6:=(World.ownsRow.lt c g rfl).1;omega,p.below d,d.size⟩
    go_wp2_with fail;go_loopw [0,26] (fun lv i wr=>Lu w B l acc g C (full n) ls lv i wr) (fun _ i _=>ls.length-(intOf i).toNat)
    case atStart=>exact D
    case round =>
     clear D c;obtain⟨k,Y,rfl,b,j,M,F,E⟩:=hrel;by_cases m:k<ls.length
     .obtain⟨x,a⟩:∃ x,ls[k]? = some x:=⟨_,List.getElem?_eq_getElem m⟩
      have P:=ji j k x a;have G:=W.out x (List.mem_of_getElem? a) wr _ _ b.1 (U.out k m) (Nat.le_trans H E) F;have O:Hid _:=a;clear a;go_wp2_with fail;refine G.mono ?_;rintro e w2 ⟨v2,rfl,f⟩;have N:Hid _:=Je m O.out J K b j M F E f;clear G P f b j;go_wp2;exact⟨N.out,by simp[intOf];omega⟩
     .have L:k=ls.length:=by omega
      subst L;rw[List.take_length]at b;go_wp2;go_ret;rw[V.out];exact⟨_,rfl,b⟩
   .have a0:((ls.length:Int) == 1)=false:=by simp;omega
    clear t q;go_enter func211,ntmps211;go_wp2_with fail;refine A.mono ?_;rintro e w1 ⟨v,rfl,c,d⟩;obtain⟨g,C,rfl⟩:=jr c (by omega);clear A;have D:Lu w B l acc g C (full n) ls l (.int .i64 0) w1:=⟨0,Nat.zero_le _,rfl,⟨by simpa using o.below d,nh d _,.inl rfl⟩,c,fun e=>by
     have h5:=(World.ownsRow.lt o g e).2;have h6:=(World.ownsRow.lt c g rfl).1;omega,p.below d,d.size⟩
    go_wp2_with fail;go_loopw [0,26] (fun lv i wr=>Lu w B l acc g C (full n) ls lv i wr) (fun _ i _=>ls.length-(intOf i).toNat)
    case atStart=>exact D
    case round =>
     clear D c;obtain⟨k,Y,rfl,b,j,M,F,E⟩:=hrel;by_cases m:k<ls.length
     .obtain⟨x,a⟩:∃ x,ls[k]? = some x:=⟨_,List.getElem?_eq_getElem m⟩
      have P:=ji j k x a;have G:=W.out x (List.mem_of_getElem? a) wr _ _ b.1 (U.out k m) (Nat.le_trans H E) F;have O:Hid _:=a;clear a;go_wp2_with fail;refine G.mono ?_;rintro e w2 ⟨v2,rfl,f⟩;have N:Hid _:=Je m O.out J K b j M F E f;clear G P f b j;go_wp2;exact⟨N.out,by simp[intOf];omega⟩
     .have L:k=ls.length:=by omega
      subst L;rw[List.take_length]at b;go_wp2;go_ret;rw[V.out];exact⟨_,rfl,b⟩
theorem al3 (r:Int) (w:World) (B:Nat) (l:Value) (acc:List Int) (f:bp r=true) (d:ab w B l acc) (g:acc.length<=3900) (c:B<=w.heap.size) (a:10<B) (b:11<B) (ht:yt w) :
  Calls prog 211 #[l,.int .i64 r] w fun e w'=>∃ v,e=.returned v/\tj w B l (acc++kw r) v w' :=
 b06 2 bR r w B l acc (av0 r) f d (by omega) c a b ht
def Dt (zs:List Int):List Int:=if okR zs=true then nD zs else []
theorem ag8 {w:World} {B:Nat} {v:Value} {zs:List Int}(h:zs.length<=1048576) (a:ab w B v zs) (d:7<B) (f:db w 7 ij) :
  Calls prog 212 #[v] w fun e w'=>e=.returned (.tuple #[])/\ab w' B v (mc zs)/\w.grownBy w' v.ownBlock:=by
 rcases a.form with ⟨rfl,rfl⟩|⟨g,c,rfl,_,_⟩
 .refine (D7 w).mono ?_
  rintro e w' ⟨rfl,rfl⟩;rw[show mc []=[] by decide];exact⟨rfl,⟨rfl,.inl ⟨rfl,rfl⟩⟩,Ao _ _⟩
 .refine (Pc w B g c zs.length zs a d h f).mono ?_
  rintro e w' ⟨rfl,b⟩;refine⟨rfl,?_,b.2.1⟩;have:=b.1;unfold Own at this;unfold ab;rw[xz];exact this
def ar8 (w:World) (zs:List Int) (lv i:Value) (wr:World):Prop :=
 ∃ k:Nat,k<=zs.length/\i=.int .i64 k/\ab wr w.heap.size lv ((zs.take k).flatMap kw)/\Below w.heap.size w wr
theorem a04 {w wr w2:World} {zs:List Int} {k:Nat} {x:Int} {lv v:Value}(c:k<zs.length) (d:zs[k]? = some x) (h:ab wr w.heap.size lv ((zs.take k).flatMap kw)) (a:Below w.heap.size w wr)
  (b:tj wr w.heap.size lv ((zs.take k).flatMap kw++kw x) v w2):ar8 w zs v (.int .i64 ((k:Int)+1)) w2:=by
 refine⟨k+1,c,by go_num,?_,Below.grown a b.2.1 a.size (fun j hj=>(World.ownsRow.lt h j hj).1)⟩;rw[Dc d];exact b.1
theorem Z8 (w:World) (B g cap:Nat) (zs:List Int) (c:okR zs=true) (o:ab w B (.slice (some ⟨g,0,none⟩) zs.length cap) zs) (h:db w 7 ij) (ht:yt w) :
  Calls prog 197 #[.slice (some ⟨g,0,none⟩) zs.length cap] w fun e w'=>∃ v',e=.returned (.tuple #[v',.bool true])/\ab w' w.heap.size v' (nD zs)/\Below w.heap.size w w':=by
 have G:=K8 o;rw[c]at G;have C:=(qi c).1;have s:Hid (∀ x ∈ zs,bp x=true):=(qi c).2;have r:Hid (∀ k,((zs.take k).flatMap kw).length<=1800):=fun k=>Nat.le_trans (uw zs k wv) (by omega)
 clear c;go_enter func197,ntmps197;go_wp2_with fail;refine G.mono ?_;rintro e l ⟨rfl,rfl⟩;clear G;go_wp2_with fail;go_loopw [4,12] (fun lv i wr=>ar8 l zs lv i wr) (fun _ i _=>zs.length-(intOf i).toNat)
 case atStart=>exact⟨0,Nat.zero_le _,rfl,⟨rfl,.inl ⟨rfl,rfl⟩⟩,bX⟩
 case round =>
  obtain⟨k,A,rfl,b,a⟩:=hrel;by_cases m:k<zs.length
  .obtain⟨x,f⟩:∃ x,zs[k]? = some x:=⟨_,List.getElem?_eq_getElem m⟩
   have v:=ji (o.below a) k x f;have n:=al3 x wr l.heap.size _ _ (s.out x (List.mem_of_getElem? f)) b (Nat.le_trans (r.out k) (by omega)) a.size ht.1.lt ht.2.lt (ht.below a);have u:Hid _:=f;clear f;go_wp2_with fail;refine n.mono ?_;rintro e z ⟨D,rfl,d⟩;have q:Hid _:=a04 m u.out b a d;clear n v d;go_wp2;exact⟨q.out,by simp[intOf];omega⟩
  .have p:k=zs.length:=by omega
   subst p;rw[List.take_length]at b;have R:=ag8 (zs:=apD zs) (Nat.le_trans (zj zs) (by omega)) b h.lt (h.below a h.lt);have t:Hid (∀ j,Value.ownBlock _=some j->l.heap.size<=j):=fun j hj=>(World.ownsRow.lt b j hj).1
   clear b;go_wp2_with fail;refine R.mono ?_;rintro e z ⟨rfl,y,d⟩;clear R;go_wp2;go_ret2;exact⟨_,rfl,y,Below.grown a d a.size t.out⟩
theorem Z7 (w:World) (a:db w 7 ij) :
  Calls prog 197 #[.slice none 0 0] w fun e w'=>∃ v',e=.returned (.tuple #[v',.bool true])/\ab w' w.heap.size v' []/\Below w.heap.size w w':=by
 have G:=Hi w none 0;have R:=D7;go_enter func197,ntmps197;go_wp2_with fail;refine G.mono ?_;rintro e b ⟨rfl,rfl⟩;clear G;go_wp2_with fail;go_loop [4,12] (fun o i=>o=.slice none 0 0/\i=.int .i64 0) (fun _ _=>0)
 case atStart=>exact⟨rfl,rfl⟩
 case round =>
  obtain⟨rfl,rfl⟩:=hrel;go_wp2_with fail;refine (R _).mono ?_;rintro e c ⟨rfl,rfl⟩;clear R;go_wp2;go_ret2;exact⟨_,rfl,⟨rfl,.inl ⟨rfl,rfl⟩⟩,bX⟩
theorem K3 {w:World} {B:Nat} {v:Value} {zs:List Int}(a:ab w B v zs) (b:db w 7 ij) (c:db w 10 yw) (d:db w 11 xq) :
  Calls prog 197 #[v] w fun e w'=>∃ v',e=.returned (.tuple #[v',.bool (okR zs)])/\ab w' w.heap.size v' (Dt zs)/\Below w.heap.size w w':=by
 unfold Dt
 cases hok:okR zs
 .have G:=K8 a
  rw[hok]at G;rw[if_neg (by simp)];clear a hok b c d;go_enter func197,ntmps197;go_wp2_with fail;refine G.mono ?_;rintro e h ⟨rfl,rfl⟩;clear G;go_wp2;go_ret2;exact⟨_,rfl,⟨rfl,.inl ⟨rfl,rfl⟩⟩,bX⟩
 .rw[if_pos rfl]
  rcases a.form with ⟨rfl,rfl⟩|⟨g,f,rfl,_,_⟩
  .rw[show nD []=[] by decide]
   exact Z7 w b
  .exact Z8 w B g f zs hok a b ⟨c,d⟩
theorem K0 (zs:List Int):(Dt zs).length<=1800:=by
 unfold Dt;split
 .rename_i h
  have a:=(qi h).1;have b:=zj zs;rw[zw];omega
 .simp
theorem Qz {w:World} {B:Nat} {v:Value} {zs:List Int}(i:zs.length<=1048576) (c:ab w B v zs) (g:db w 7 ij) (f:db w 10 yw) (h:db w 11 xq) :
  Calls prog 198 #[v] w fun e w'=>e=.returned (.tuple #[.bool (isD zs),.bool (okR zs)])/\Below w.heap.size w w':=by
 have D:=K3 c g f h;have b:=K0 zs;unfold isD;clear g f h
 cases hok:okR zs
 .rw[hok]at D
  clear c hok b;go_enter func198,ntmps198;go_wp2_with fail;refine D.mono ?_;rintro e l ⟨k,rfl,d,a⟩;clear D;go_wp2;go_ret2;exact⟨rfl,a⟩
 .unfold Dt at D b
  rw[hok,if_pos rfl]at D;rw[hok,if_pos rfl]at b;clear hok;generalize nD zs=ds at *;go_enter func198,ntmps198;go_wp2_with fail;refine D.mono ?_;rintro e l ⟨k,rfl,d,a⟩;have E:=Jv (by omega) i d (c.below a);clear D;go_wp2_with fail;refine E.mono ?_;rintro e m ⟨rfl,j,rfl⟩;clear E;go_wp2;go_ret2;exact⟨rfl,below_drewN a j⟩
theorem Ia (s:ByteArray) (w:World) (r:s.size<=1073741824) :
  Calls prog 102 #[.string s] w fun e w'=>∃ v,e=.returned (.tuple #[v,.bool (ok4 s)])/\(s.size<=200->ab w' w.heap.size v (rn4 s))/\Below w.heap.size w w':=by
 by_cases z:200<s.size
 .have q:(200:Int)<(s.size:Int):=by omega
  have b:Hid (ok4 s=false):=decide_eq_false fun c=>by omega
  go_enter func102,ntmps102;go_wp2;go_ret2;rw[b.out];exact⟨_,rfl,fun h=>absurd h (by omega),bX⟩
 .have q:¬ (200:Int)<(s.size:Int):=by omega
  have b:Hid (ok4 s=decide (((rn4 s).length:Int)<=200)):=by
   show _=_
   unfold ok4;rw[decide_eq_decide];omega
  have i:=fun w=>Cg s w r
  have n:=(Dec.decT_len s.size s bR).1;have y:(rn4 s).length<=1800:=by unfold rn4;rw[zw];have:=zj (Dec.decT s.size s).1;omega
  have D:=fun (u:World) (B:Nat) (v:Value) (h:ab u B v (Dec.decT s.size s).1)=>Dr (by omega) h
  change ∀ (u:World) (B:Nat) (v:Value),ab u B v (Dec.decT s.size s).1->Calls prog 41 #[v] u fun e w'=>∃ v',e=.returned v'/\ab w' u.heap.size v' (rn4 s)/\Below u.heap.size u w' at D
  rw[b.out];clear b n;generalize rn4 s=l at *;generalize (Dec.decT s.size s).1=l0 at *;generalize (Dec.decT s.size s).2=n0 at *;go_enter func102,ntmps102;go_wp2_with fail;refine (i _).mono ?_;rintro e C ⟨A,rfl,k,d⟩;clear i;go_wp2_with fail;refine (D _ _ _ k).mono ?_;rintro e E ⟨t,rfl,m,j⟩;clear D k;have f:=fe m d.size;have o:Hid _:=d.trans (j.mono d.size);obtain⟨a,c,rfl⟩:∃ a c,t=.slice a l.length c:=by
   rcases f.form with ⟨rfl,rfl⟩|⟨g,x,rfl,_,_⟩
   .exact⟨_,_,rfl⟩
   .exact⟨_,_,rfl⟩
  have p:Hid (ab _ _ _ _):=f;clear m f d j;go_wp2;go_ret2;exact⟨_,rfl,fun _=>p.out,o.out⟩
theorem a05 {zs:List Int}(h:okR zs=true):okD zs=decide ((nD zs).length<=200):=by
 unfold okD;rw[h,Bool.true_and,zw]
theorem Zk {w:World} {B:Nat} {v:Value} {zs:List Int}(_hz:zs.length<=1048576) (f:ab w B v zs) (i:db w 7 ij) (h:db w 10 yw) (j:db w 11 xq) :
  Calls prog 176 #[v] w fun e w'=>∃ v',e=.returned (.tuple #[v',.bool (okD zs)])/\ab w' w.heap.size v' (Tr zs)/\Below w.heap.size w w':=by
 have F:=K3 f i h j;have c:=K0 zs;unfold Tr;clear f i h j
 cases hok:okR zs
 .rw[hok]at F
  rw[av5 hok,if_neg (by simp)];clear hok c;go_enter func176,ntmps176;go_wp2_with fail;refine F.mono ?_;rintro e l ⟨k,rfl,a,b⟩;clear F;go_wp2;go_ret2;exact⟨_,rfl,⟨rfl,.inl ⟨rfl,rfl⟩⟩,b⟩
 .rw[hok]at F
  unfold Dt at F c;rw[a05 hok];rw[hok,if_pos rfl]at F c;clear hok;generalize nD zs=ds at *;by_cases d:ds.length<=200
  .have n:¬ (200:Int)<(ds.length:Int):=by omega
   rw[decide_eq_true d,if_pos rfl];go_enter func176,ntmps176;go_wp2_with fail;refine F.mono ?_;rintro e l ⟨k,rfl,a,b⟩;clear F;rcases a.form with ⟨rfl,rfl⟩|⟨g,m,rfl,_,_⟩
   .go_wp2
    go_ret2;exact⟨_,rfl,a,b⟩
   .go_wp2
    go_ret2;exact⟨_,rfl,a,b⟩
  .have n:(200:Int)<(ds.length:Int):=by omega
   rw[decide_eq_false d,if_neg (by simp)];go_enter func176,ntmps176;go_wp2_with fail;refine F.mono ?_;rintro e l ⟨k,rfl,a,b⟩;clear F;rcases a.form with ⟨rfl,rfl⟩|⟨g,m,rfl,_,_⟩
   .exact absurd (by simp) d
   .go_wp2
    go_ret2;exact⟨_,rfl,⟨rfl,.inl ⟨rfl,rfl⟩⟩,b⟩
theorem ak9 {b a o c:Nat}(h:b≠a\/o≠c):(⟨b,o,none⟩:Addr)≠⟨a,c,none⟩:=by
 intro e;injection e;omega
theorem de {u:World} {b a o c:Nat} {x:Value}(h:b≠a\/o≠c):(u.setCell ⟨b,o,none⟩ x).cell? ⟨a,c,none⟩=u.cell? ⟨a,c,none⟩:=by
 apply World.cell?_setCell_other
 exact ak9 h
theorem Ae {u:World} {a:Addr} {x y:Value}(h:u.cell? a=some y):(u.setCell a x).cell? a=some x:=by
 apply World.cell?_setCell_same
 exact h
def mb (u:World) (b:Nat) (e:El):World:=(((u.setCell ⟨b,0,none⟩ (.int .i64 e.first)).setCell ⟨b,1,none⟩ (.int .i64 e.second)).setCell ⟨b,2,none⟩ (.int .i64 e.third)).setCell ⟨b,3,none⟩ (.bool e.varies)
theorem qs {u:World} {b a o:Nat} {e:El}(h:b≠a):(mb u b e).cell? ⟨a,o,none⟩=u.cell? ⟨a,o,none⟩:=by
 unfold mb;rw[de (.inl h),de (.inl h),de (.inl h),de (.inl h)]
theorem pz (u:World) (b:Nat) (e:El):u.grownBy (mb u b e) (some b) :=
 (((au u b 0 _).trans (au _ b 1 _)).trans (au _ b 2 _)).trans (au _ b 3 _)
theorem ac.grown {u u':World} {B b:Nat} {v:Value} {es:List Ent}(h:ac u B v es) (a:u.grownBy u' (some b)) (o:b<B):ac u' B v es:=by
 have i:∀ {v:Value},(∀ g,v.ownBlock=some g->B<=g)->v.ownBlock=none\/v.ownBlock≠some b:=fun {v} h=>by
  cases e:v.ownBlock with
  | none=>exact .inl rfl
  | some g =>
   refine .inr fun c=>?_
   have:=h g e
   cases c
   omega
 obtain⟨n,l,d,j⟩:=h;refine⟨n,l,World.ownsRow.kept d a (i fun g a=>(World.ownsRow.lt d g a).1),fun k e he=>?_⟩;obtain⟨x,m,f⟩:=j k e he;exact⟨x,m,World.ownsRow.kept f a (i fun g a=>(World.ownsRow.lt f g a).1)⟩
theorem Q6 {w u:World} {b:Nat}(h:Below w.heap.size w u) (a:w.heap.size<=b) (e:El):Below w.heap.size w (mb u b e) :=
 (((h.setCell a _).setCell a _).setCell a _).setCell a _
theorem ac.low {u:World} {B f:Nat} {v:Value} {es:List Ent}(h:ac u f v es) (o:B<=f):ac u B v es:=by
 obtain⟨s,q,l,m⟩:=h;refine⟨s,q,?_,fun k e he=>?_⟩
 .obtain⟨n,d⟩:=l
  refine⟨n,?_⟩;rcases d with d|⟨g,i,j,a,b,c⟩
  .exact .inl d
  .exact .inr ⟨g,i,j,a,by omega,c⟩
 .obtain⟨x,r,p⟩:=m k e he
  exact⟨x,r,fe p o⟩
theorem H6 (w:World) (x:Value) (e:El) (t:TypeId):∀ j u,(gm x e)[j]? = some u->(w.alloc (.cells #[x,.int .i64 e.first,.int .i64 e.second,.int .i64 e.third,.bool e.varies] t)).cell? ((⟨w.heap.size,0,none⟩:Addr).add j)=some u:=by
 intro j u a;match j,a with
 | 0,a=>simp[gm]at a;subst a;simp[Addr.add]
 | 1,a=>simp[gm]at a;subst a;simp[Addr.add]
 | 2,a=>simp[gm]at a;subst a;simp[Addr.add]
 | 3,a=>simp[gm]at a;subst a;simp[Addr.add]
 | 4,a=>simp[gm]at a;subst a;simp[Addr.add]
 | j+5,a=>simp[gm]at a
theorem C7 (w:World) (n:Nat) (x:Value) (e:El) (t:TypeId) (a:n=w.heap.size):∀ j u,(gm x e)[j]? = some u->(w.alloc (.cells #[x,.int .i64 e.first,.int .i64 e.second,.int .i64 e.third,.bool e.varies] t)).cell? ((⟨n,0,none⟩:Addr).add j)=some u:=by
 subst a;exact H6 w x e t
theorem Ar:(prog.info? 117).map (fun i=>(i.zero,i.size,i.bytes))=some (some (.agg #[.slice none 0 0,.int .i64 0,.int .i64 0,.int .i64 0,.bool false]),5,56):=by kernel_rfl
theorem Eh (xs:List Value) (es:List Ent) (x:Value) (e:Ent) (h:xs.length=es.length):eu (xs++[x]) (es++[e])=eu xs es++gm x e.el:=by
 induction es generalizing xs with
 | nil=>cases xs with
  | nil=>rfl
  | cons y ys=>simp at h
 | cons e' es ih=>cases xs with
  | nil=>simp at h
  | cons y ys =>
   show gm y e'.el++eu (ys++[x]) (es++[e])=(gm y e'.el++eu ys es)++_
   rw[ih ys (by simpa using h),List.append_assoc]
theorem ac.snoc {u u':World} {B:Nat} {v v':Value} {es:List Ent} {xs:List Value} {x:Value} {e:Ent}(a:xs.length=es.length)
  (h2:∀ (k:Nat) (e:Ent),es[k]? = some e->∃ x,xs[k]? = some x/\ab u B x e.runes) (c:ab u B x e.runes)
  (h1:u.ownsRow B 117 5 v es.length (eu xs es))
  (d:u.grownBy u' v.ownBlock) (h:u'.ownsRow B 117 5 v' (es.length+1) (eu xs es++gm x e.el)):ac u' B v' (es++[e]):=by
 refine⟨xs++[x],by simp[a],?_,fun k y hy=>?_⟩
 .rw[Eh xs es x e a,List.length_append]
  exact h
 .by_cases j:k<es.length
  .rw[List.getElem?_append_left j]at hy
   obtain⟨z,f,b⟩:=h2 k y hy;have i:=(List.getElem?_eq_some_iff.1 f).1;refine⟨z,by rw[List.getElem?_append_left i];exact f,World.ownsRow.kept b d (dg b h1 (by decide))⟩
  .have g:k=es.length:=by
    have:=(List.getElem?_eq_some_iff.1 hy).1;simp at this;omega
   subst g;simp at hy;subst hy;exact⟨x,by rw[<- a];simp,World.ownsRow.kept c d (dg c h1 (by decide))⟩
def jh (w:World) (B T:Nat) (v:Value) (es:List Ent):Prop :=
 ∃ xs:List Value,xs.length=es.length/\w.ownsRow B 117 5 v es.length (eu xs es)/\(∀ (k:Nat) (e:Ent),es[k]? = some e->∃ x,xs[k]? = some x/\ab w B x e.runes) /\
  (∀ (i j:Nat) (x y:Value),i≠j->xs[i]? = some x->xs[j]? = some y->x.ownBlock=none\/x.ownBlock≠y.ownBlock) /\
  (∀ g,v.ownBlock=some g->g<T)/\∀ (i:Nat) (x:Value) (g:Nat),xs[i]? = some x->x.ownBlock=some g->g<T
theorem jh.ents {w:World} {B T:Nat} {v:Value} {es:List Ent}(h:jh w B T v es):ac w B v es:=by
 obtain⟨d,c,a,b,_⟩:=h;exact⟨d,c,a,b⟩
theorem jh.nil (w:World) (B T:Nat):jh w B T (.slice none 0 0) []:=⟨[],rfl,⟨rfl,.inl ⟨rfl,rfl⟩⟩,fun k e h=>by simp at h,fun i j x y _ h=>by simp at h,(fun g h=>by simp[Value.ownBlock]at h),(fun i x g h=>by simp at h)⟩
theorem jh.below {w w':World} {B T:Nat} {v:Value} {es:List Ent}(h:jh w B T v es) (a:Below w.heap.size w w'):jh w' B T v es:=by
 obtain⟨m,j,b,c,d,f,g⟩:=h;refine⟨m,j,World.ownsRow.kept b (row:=none) ⟨a.os,a.tape,a.output,a.size,fun k hk _=>a.block k hk⟩ (by cases h:v.ownBlock <;> simp),fun k e he=>?_,d,f,g⟩;obtain⟨x,l,i⟩:=c k e he;exact⟨x,l,i.below a⟩
theorem Po (l:List UInt8) (w:World) :
  Calls prog 185 #[.string ⟨l.toArray⟩,.int .u8 32] w fun e w'=>e=.returned (.string ⟨(l.dropWhile (· == 32)).toArray⟩)/\w'=w:=by
 obtain⟨D,a⟩:∃ D,Hid (l.dropWhile (· == 32)=D):=⟨_,rfl⟩
 rw[a.out];go_enter func185,ntmps185;go_wp2;go_loop [0] (fun v=>∃ f:List UInt8,v=.string ⟨f.toArray⟩/\Hid (f.dropWhile (· == 32)=D)) (fun v=>Lib.strSize v)
 case atStart=>exact⟨l,rfl,a⟩
 case round =>
  clear a;obtain⟨f,rfl,a⟩:=hrel;match f,a with
  | [],a =>
   have h:D=[]:=a.out.symm.trans rfl;subst h;clear a;go_wp2;go_ret;exact⟨rfl,rfl⟩
  | b::l2,a =>
   have o:(⟨(b::l2).toArray⟩:ByteArray).size=l2.length+1:=rfl;have i:∀ h,(⟨(b::l2).toArray⟩:ByteArray)[0]'h=b:=fun _=>rfl
   have p:(⟨(b::l2).toArray⟩:ByteArray).extract 1 (l2.length+1)=⟨l2.toArray⟩:=by
    rw[Lib.extract_mk];simp
   have n:Hid ((⟨(b::l2).toArray⟩:ByteArray)=⟨(b::l2).toArray⟩):=rfl;have j:Hid (Lib.strSize (.string ⟨l2.toArray⟩)<Lib.strSize (.string ⟨(b::l2).toArray⟩)):=by
    show _<_
    rw[Lib.strSize_string,Lib.strSize_string,Lib.size_mk,Lib.size_mk];simp
   generalize ht:(⟨(b::l2).toArray⟩:ByteArray)=t at o i p j ⊢;have m:=hZ ht;clear ht n;have k:0<t.size:=by omega
   have d:=i k;clear i;by_cases c:b=32
   .have r:((t[0]'k).toNat:Int)=32:=by rw[d,c];rfl
    have g:Hid (l2.dropWhile (· == 32)=D):=by
     show _=_
     have:=a.out;simp[c]at this
     exact this
    clear a d c m;go_wp2;exact⟨⟨l2,rfl,g⟩,j.out⟩
   .have q:(((t[0]'k).toNat:Int) == 32)=false:=by
     rw[d];simp
     intro e;exact c (UInt8.toNat_inj.1 (by show b.toNat=32;omega))
    have g:Hid (D=b::l2):=by
     show _=_
     have:=a.out;simp[c]at this
     exact this.symm
    clear a d c j;go_wp2;go_ret;rw[g.out,m.out];exact⟨rfl,rfl⟩
theorem ai8 (l:List UInt8) (w:World) :
  Calls prog 165 #[.string ⟨l.toArray⟩,.string ⟨#[32]⟩] w fun e w'=>e=.returned (.string ⟨(l.dropWhile (· == 32)).toArray⟩)/\w'=w:=by
 have A:=fun w=>Po l w
 have c:Hid (∀ t,(⟨l.toArray⟩:ByteArray)=t->t.toList=[]->l=[]):=fun t h e=>by
  subst h;rw[Lib.toList_data]at e;simpa using e
 obtain⟨D,a⟩:∃ D,Hid (l.dropWhile (· == 32)=D):=⟨_,rfl⟩
 rw[a.out]at A ⊢
 cases l with
 | nil =>
  have h:D=[]:=a.out.symm.trans rfl;subst h;clear a A c;go_enter func165,ntmps165;go_wp2;go_ret;exact⟨rfl,rfl⟩
 | cons b l2 =>
  have d:((⟨(b::l2).toArray⟩:ByteArray).toList == [])=false:=by
   rw[Lib.toList_data];simp
  have f:(⟨(b::l2).toArray⟩:ByteArray).toList.isEmpty=false:=by
   rw[Lib.toList_data];simp
  have g:∀ w,(Instr.index 9 (.string ⟨#[32]⟩) (.int .i64 0)).run prog w=.ok (.int .u8 32) w:=fun _=>by kernel_rfl
  generalize (⟨(b::l2).toArray⟩:ByteArray)=t at *;clear a c;go_enter func165,ntmps165;go_wp2_with fail;refine (A _).mono ?_;rintro e i ⟨rfl,rfl⟩;clear A;go_wp2;go_ret;exact⟨rfl,rfl⟩
theorem Lb (t:ByteArray) (w:World) :
  Calls prog 205 #[.string t,.string ⟨#[32]⟩] w fun e w'=>e=.returned (.int .i64 (Lib.indexByte t.data.toList 32))/\w'=w:=by
 have A:=fun w=>Ci t 32 w
 have c:∀ w,(Instr.index 9 (.string ⟨#[32]⟩) (.int .i64 0)).run prog w=.ok (.int .u8 32) w:=fun _=>by kernel_rfl
 by_cases h:([32] == t.toList)=true
 .have e:t.data.toList=[32]:=by rw[<- Lib.toList_data];exact (beq_iff_eq.1 h).symm
  have a:Hid (Lib.indexByte t.data.toList 32=0):=by show _=_;rw[e];rfl
  clear A e;go_enter func205,ntmps205;go_wp2;go_ret;rw[a.out];exact⟨rfl,rfl⟩
 .have b:([32] == t.toList)=false:=by simpa using h
  clear h;go_enter func205,ntmps205;go_wp2_with fail;refine (A _).mono ?_;rintro e d ⟨rfl,rfl⟩;clear A;go_wp2;go_ret;exact⟨rfl,rfl⟩
def Ag (t:List UInt8):List UInt8 × List UInt8:=(t.takeWhile (· != 32),(t.dropWhile (· != 32)).drop 1)
theorem a03 (l:List UInt8):dn l=Ag (l.dropWhile (· == 32)):=rfl
theorem Rd (t:List UInt8) (ht:t.length<=1048576) (w:World) :
  Calls prog 184 #[.string ⟨t.toArray⟩,.string ⟨#[32]⟩] w fun e w'=>∃ b,e=.returned (.tuple #[.string ⟨(Ag t).1.toArray⟩,.string ⟨(Ag t).2.toArray⟩,.bool b])/\∃ n,w'=w.drewN n:=by
 have A:=fun w=>Lb ⟨t.toArray⟩ w
 have h:=Lib.indexByte_ge t 32;by_cases c:Lib.indexByte t 32=-1
 .obtain⟨d,f⟩:=Mn t c
  unfold Ag;rw[d,f];have a:=fun w=>(c ▸ A w:Calls prog 205 #[.string ⟨t.toArray⟩,.string ⟨#[32]⟩] w fun e w'=>e=.returned (.int .i64 (-1))/\w'=w)
  generalize (⟨t.toArray⟩:ByteArray)=s at *;clear A c h d f;go_enter func184,ntmps184;go_wp2_with fail;refine (a _).mono ?_;rintro e l ⟨rfl,rfl⟩;clear a;go_wp2;go_ret3
  exact⟨_,rfl,0,rfl⟩
 .obtain⟨i,g⟩:∃ i:Nat,Lib.indexByte t 32=(i:Int):=⟨(Lib.indexByte t 32).toNat,by omega⟩
  obtain⟨o,d,f⟩:=So t i g;unfold Ag;rw[d,f];have a:=fun w=>(g ▸ A w:Calls prog 205 #[.string ⟨t.toArray⟩,.string ⟨#[32]⟩] w fun e w'=>e=.returned (.int .i64 (i:Int))/\w'=w)
  have j:(⟨t.toArray⟩:ByteArray).extract 0 i=⟨(t.take i).toArray⟩:=by rw[Lib.extract_mk];simp
  have k:(⟨t.toArray⟩:ByteArray).extract (i+1) t.length=⟨(t.drop (i+1)).toArray⟩:=by
   rw[Lib.extract_mk,List.take_of_length_le (by simp)]
  have m:(⟨t.toArray⟩:ByteArray).size=t.length:=rfl;rw[<- j,<- k];generalize (⟨t.toArray⟩:ByteArray)=s at *;have p:(i:Int)<(t.length:Int):=by omega
  clear A c h d f j k g;go_enter func184,ntmps184;go_wp2_with fail;refine (a _).mono ?_;rintro e l ⟨rfl,rfl⟩;clear a;go_wp2_with fail;go_quiet (fail)
  go_wp2;go_ret3
  exact⟨_,rfl,_,rfl⟩
end Go.Proofs.YtjbmgghehdemdaaGreatDoor
