/- ISh6 -/
import Derived.Test.YtjbmgghehdemdaaGreatDoorMS12
import Derived.Deep.RegionHeldLaw
import Derived.Deep.RegionLaw
namespace Go.Proofs.YtjbmgghehdemdaaGreatDoor
set_option maxRecDepth 100000
set_option maxHeartbeats 16000000
open _root_.Go.Proofs.Tryz
open Go.RowKit
theorem dd (s:ByteArray) (n:Nat) (h:n<s.size) (u:World):(Instr.index 9 (.string s) (.int .i64 (n:Int))).run prog u=.ok (.int .u8 ((bAt s n).toNat:Int)) u:=by
 rw[run_index_string (h:=underlying9),dif_pos ⟨by omega,by omega⟩];congr 3
 have a:n<s.data.toList.length:=by rw[Array.length_toList];exact h
 simp only[bAt,List.getD,List.getElem?_eq_getElem a,Option.getD_some,Int.toNat_natCast];rfl
theorem Ne (w:World) (p q:Nat):(w.drewN p).drewN q=w.drewN (p+q):=by rw[World.drewN_drewN]
def bd6 (w:World) (a k:ByteArray) (i:Value) (wr:World):Prop :=
 ∃ n q:Nat,i=.int .i64 n/\n<=a.size/\n<=k.size/\n+shL (a.data.toList.drop n) (k.data.toList.drop n)=shB a k/\wr=w.drewN q
theorem Kd (a k:ByteArray) (y:a.size<=1048576) (_hk:k.size<=1048576) (w:World) :
  Calls prog 183 #[.string a,.string k] w fun e w'=>e=.returned (.int .i64 (shB a k))/\∃ n,w'=w.drewN n:=by
 obtain⟨s,c⟩:∃ s,Hid (shB a k=s):=⟨_,rfl⟩
 rw[c.out];go_enter func183,ntmps183;go_wp2;go_loopw [5] (fun i wr=>bd6 w a k i wr) (fun i _=>a.size-(intOf i).toNat)
 case atStart=>exact⟨0,0,rfl,Nat.zero_le _,Nat.zero_le _,by simp[shB],rfl⟩
 case round =>
  obtain⟨n,q,rfl,v,x,p,rfl⟩:=hrel;have b:Hid _:=p;clear p;by_cases g:n<a.size
  .by_cases j:n<k.size
   .have o:(n:Int)<(a.size:Int):=by omega
    have r:(n:Int)<(k.size:Int):=by omega
    have t:=dd a n g;have z:=dd k n j;have l:=p8 g;have m:=p8 j;by_cases f:bAt a n=bAt k n
    .have d:Hid (n+1+shL (a.data.toList.drop (n+1)) (k.data.toList.drop (n+1))=shB a k):=by
      show _=_
      rw[<- b.out,l,m,shL,if_pos f];omega
     rw[f]at t;clear b l m f c;go_wp2;go_quiet (fail)
     go_wp2;exact⟨⟨n+1,_,by go_num,g,j,d.out,rfl⟩,by simp[intOf];omega⟩
    .have d:Hid (n=s):=by
      show _=_
      have:=b.out;rw[l,m,shL,if_neg f,c.out]at this;omega
     have u:((bAt a n).toNat:Int)≠((bAt k n).toNat:Int):=fun h=>f (UInt8.toNat_inj.1 (by omega))
     generalize ((bAt a n).toNat:Int)=z1 at *;generalize ((bAt k n).toNat:Int)=z2 at *;clear b l m f c;go_wp2;go_quiet (fail)
     go_wp2;go_ret;rw[d.out];exact⟨rfl,_,Ne _ _ _⟩
   .have o:(n:Int)<(a.size:Int):=by omega
    have d:Hid (n=s):=by
     show _=_
     have:=b.out;rw[Qo _ _ (zu j),c.out]at this;omega
    clear b c;go_wp2;have r:decide ((n:Int)<(k.size:Int))=false:=decide_eq_false (by omega);go_quiet (fail)
    go_wp2;go_ret;rw[d.out];exact⟨rfl,_,Ne _ _ _⟩
  .have d:Hid (n=s):=by
    show _=_
    have:=b.out;rw[Qn _ _ (zu g),c.out]at this;omega
   clear b c;go_wp2;have o:decide ((n:Int)<(a.size:Int))=false:=decide_eq_false (by omega);go_quiet (fail)
   go_wp2;go_ret;rw[d.out];exact⟨rfl,_,Ne _ _ _⟩
theorem Yp (p:ByteArray) (x:Rw):4+(x.key.size:Int)-(shB p x.key:Int)+(x.text.size:Int)+(x.val.size:Int)=((jp p x).length:Int):=(ul p x).symm
theorem K9 (p:ByteArray) (x:Rw) (d:p.size<=1048576) (h0:x.key.size<=1048576) (h1:x.text.size<=1048576) (h2:x.val.size<=1048576) (w:World) :
  Calls prog 181 #[.string p,.agg #[.string x.key,.string x.text,.string x.val]] w fun e w'=>e=.returned (.int .i64 ((jp p x).length:Int))/\Below w.heap.size w w':=by
 have SH:=fun u=>Kd p x.key d h0 u
 have f:=Fv p x.key;have b:Hid _:=Yp p x;have a:Hid (∀ o n,Below w.heap.size w ((w.alloc o).drewN n)):=fun o n=>⟨((Below.refl w.heap.size w).alloc bR o).os,((Below.refl w.heap.size w).alloc bR o).tape,((Below.refl w.heap.size w).alloc bR o).output,((Below.refl w.heap.size w).alloc bR o).size,((Below.refl w.heap.size w).alloc bR o).block⟩
 generalize (jp p x).length=L at *;generalize shB p x.key=s at *;go_enter func181,ntmps181;go_wp2;go_quiet ((go_at_call 183;exact (SH _).mono fun e w' h=>⟨h.1,by obtain⟨n,c⟩:=h.2;exact⟨_,c.trans (Ne _ _ _)⟩⟩))
 go_wp2;go_ret;have e:=b.out;exact⟨by rw[<- e];rfl,a.out _ _⟩
def bc5 (w:World) (l:List Rw) (v3 v4 i:Value) (wr:World):Prop :=
 ∃ k:Nat,k<=l.length/\i=.int .i64 k/\v3=.int .i64 ((3+(fd ⟨#[]⟩ (l.take k)).length:Nat):Int)/\v4=.string (ft ⟨#[]⟩ (l.take k))/\Below w.heap.size w wr
theorem a94 (l:List Rw):(fi l).length=3+(fd ⟨#[]⟩ l).length:=by
 unfold fi;rw[List.length_append];rfl
theorem Tf {w:World} {a:Option Addr} {l:List Rw} {cap:Nat}(t:dc w a l) (s:RwB l) :
  Calls prog 204 #[.slice a l.length cap] w fun e w'=>e=.returned (.int .i64 ((fi l).length:Int))/\Below w.heap.size w w':=by
 have W:=s.1;have g:=hZ s;have N:Hid _:=a94 l;clear s;generalize (fi l).length=P at *;go_enter func204,ntmps204;go_wp2;go_loopw [3,4,9] (fun v3 v4 i wr=>bc5 w l v3 v4 i wr) (fun _ _ i _=>l.length-(intOf i).toNat)
 case atStart=>exact⟨0,Nat.zero_le _,rfl,rfl,rfl,bX⟩
 case round =>
  obtain⟨k,V,rfl,rfl,rfl,d⟩:=hrel;by_cases y:k<l.length
  .obtain⟨x,c⟩:∃ x,l[k]? = some x:=⟨_,List.getElem?_eq_getElem y⟩
   have F:=t.below d bR;rcases F with rfl|⟨b,o,rfl,D⟩
   .simp at c
   obtain⟨B,Q,R⟩:=D k x c;have H:=ag B;have U:(k:Int)<(l.length:Int):=by omega
   have v:=d.alloc d.size (.cells #[.string x.key,.string x.text,.string x.val] 37);have z:=g.out.at c;have K:=qx g.out k;have L:=uz g.out k;have J:=Ay (p:=ft ⟨#[]⟩ (l.take k)) z;have q:=fun u=>K9 (ft ⟨#[]⟩ (l.take k)) x (by omega) (by omega) (by omega) (by omega) u
   have O:Hid _:=D6 ⟨#[]⟩ c;have M:Hid _:=xq ⟨#[]⟩ c;have f:Hid _:=v;have G:wr.heap.size<(wr.alloc (.cells #[.string x.key,.string x.text,.string x.val] 37)).heap.size:=by simp
   have C:(wr.alloc (.cells #[.string x.key,.string x.text,.string x.val] 37)).cell? ⟨wr.heap.size,0,none⟩=some (.string x.key):=by simp
   obtain⟨m,h⟩:∃ m,Hid (m=3+(fd ⟨#[]⟩ (l.take k)).length):=⟨_,rfl⟩
   rw[<- h.out];have X:m<=200000:=by have:=h.out;omega
   obtain⟨n,j⟩:∃ n,Hid (n=(jp (ft ⟨#[]⟩ (l.take k)) x).length):=⟨_,rfl⟩
   rw[<- j.out]at q;have Y:n<=769:=by have:=j.out;omega
   generalize ft ⟨#[]⟩ (l.take k)=pk at *;have A:Hid _:=C;clear D c t d v z K L J C;go_wp2_with fail;refine (q _).mono ?_;rintro e S ⟨rfl,r⟩;have T:S.cell? ⟨wr.heap.size,0,none⟩=some (.string x.key):=by rw[r.cell G];exact A.out
   have E:=hZ (f.out.trans (r.mono f.out.size));clear A f r q B Q R H;go_wp2;refine⟨⟨k+1,y,by go_num,?_,by rw[M.out],E.out⟩,by simp[intOf];omega⟩;rw[O.out,List.length_append,<- j.out,<- Nat.add_assoc,<- h.out];go_num
  .have I:k=l.length:=by omega
   subst I;rw[Dd,<- N.out];clear t;go_wp2;go_ret;exact⟨rfl,d⟩
theorem ax7 {w:World} {a:Option Addr} {l:List Rw} {cap:Nat}(d:dc w a l) (c:RwB l) :
  Calls prog 182 #[.slice a l.length cap] w fun e w'=>e=.returned (.bool (decide ((fi l).length<=300)))/\Below w.heap.size w w':=by
 have b:=Tf (cap:=cap) d c;have f:Hid (decide (((fi l).length:Int)<=300)=decide ((fi l).length<=300)):=by
  show _=_
  by_cases h:(fi l).length<=300
  .rw[decide_eq_true h,decide_eq_true (by omega)]
  .rw[decide_eq_false h,decide_eq_false (by omega)]
 generalize (fi l).length=P at *;clear d c;go_enter func182,ntmps182;go_wp2_with fail;refine b.mono ?_;rintro e i ⟨rfl,g⟩;clear b;go_wp2;go_ret;have e:=f.out;exact⟨by rw[<- e];rfl,g⟩
theorem q9 {w:World} {b n:Nat} {t:ByteArray}(a:PgR w b t) (c:n<=t.size) :
  Calls prog 172 #[.pointer (some ⟨b,0,none⟩),.int .i64 (n:Int)] w fun e w'=>e=.returned (.string (t.extract 0 n))/\PgR w' b (t.extract n t.size)/\w.grownBy w' (some b) :=
 (b27 a c).mono fun e w' ⟨h1,h2⟩=>⟨h1,by rw[h2];exact a.set _,by rw[h2];exact au w b 0 _⟩
theorem PgR.alloc {w:World} {b:Nat} {t:ByteArray}(h:PgR w b t) (o:Obj):PgR (w.alloc o) b t:=h.below (bY _)
theorem PgR.drew {w:World} {b:Nat} {t:ByteArray}(h:PgR w b t):PgR w.drew b t:=h
theorem ug {w w':World} {b:Nat} {o:Obj}(h:(w.alloc o).grownBy w' (some b)) (_hb:b<w.heap.size):w.grownBy w' (some b) :=
 (World.grownBy_alloc w o (some b)).trans h
theorem Cj {w w':World} {r:Option Nat}(h:w.drew.grownBy w' r):w.grownBy w' r:=⟨h.os,h.tape,h.output,h.size,h.block⟩
def wv (w:World) (b:Nat):Prop:=w.heap[b]? = some (.cells #[.string ⟨#[]⟩,.string ⟨#[]⟩,.string ⟨#[]⟩] 37)
theorem wv.lt {w:World} {b:Nat}(h:wv w b):b<w.heap.size:=(Array.getElem?_eq_some_iff.1 h).1
theorem wv.frozen {w:World} {b:Nat}(h:wv w b) (j:Nat):w.frozen? ⟨b,j,none⟩=false:=by unfold wv at h;simp[World.frozen?,h]
theorem Hd (u:World) (b k:Nat) (x0 a c:Value) (h:b≠k):(((u.setCell ⟨b,0,none⟩ x0).setCell ⟨b,1,none⟩ a).setCell ⟨b,2,none⟩ c).heap[k]? = u.heap[k]?:=by
 simp[World.setCell,Array.getElem?_modify,h]
theorem Wv {w u:World} {b c:Nat} {x0 a d:Value}(h:w.grownBy u (some b)) (e:w.heap.size<=c):w.grownBy (((u.setCell ⟨c,0,none⟩ x0).setCell ⟨c,1,none⟩ a).setCell ⟨c,2,none⟩ d) (some b) :=
 ⟨h.os,h.tape,h.output,by simpa using h.size,fun k hk hne=>(Hd u c k x0 a d (by omega)).trans (h.block k hk hne)⟩
theorem Zt {w1 w2 w3 w4:World} {b c:Nat}(k:b<c) (h:wv w1 c) (g:w1.drew.grownBy w2 (some b)) (i:w2.grownBy w3 (some b)) (j:w3.grownBy w4 (some b)):wv w4 c:=by
 have a:some c≠some b:=fun e=>by cases e;omega
 have d:wv w2 c:=(g.block c h.lt a).trans h;have f:wv w3 c:=(i.block c d.lt a).trans d;exact (j.block c f.lt a).trans f
theorem pj {t:ByteArray}(a:4<=t.size) (i:Nat) (hi:i<4) (u:World):(Instr.index 9 (.string (t.extract 0 4)) (.int .i64 (i:Int))).run prog u=.ok (.int .u8 (hd t i:Int)) u:=by
 have h:=dd (t.extract 0 4) i (by rw[gk t a];omega) u;rw[Bb t a (by omega),Nat.zero_add]at h;exact h
theorem Z5 {w:World} {b:Nat} {t p:ByteArray}(C:PgR w b t) (o:ox p t=true) (_hp:p.size<=1048576) (a2:t.size<=1048576) :
  Calls prog 173 #[.pointer (some ⟨b,0,none⟩),.string p] w fun e w'=>e=.returned (rwV (mi p t))/\PgR w' b (lp t)/\w.grownBy w' (some b):=by
 obtain⟨i,hn,h5⟩:=ut o;have K:=C.lt;have s:Calls prog 172 #[.pointer (some ⟨b,0,none⟩),.int .i64 4] _ _:=q9 (n:=4) (C.alloc (.cells #[.string ⟨#[]⟩,.string ⟨#[]⟩,.string ⟨#[]⟩] 37)) i;have c:∀ u:World,(Instr.index 9 (.string (t.extract 0 4)) (.int .i64 0)).run prog u=.ok (.int .u8 (hd t 0:Int)) u:=pj i 0 (by omega)
 have d:∀ u:World,(Instr.index 9 (.string (t.extract 0 4)) (.int .i64 1)).run prog u=.ok (.int .u8 (hd t 1:Int)) u:=pj i 1 (by omega)
 have f:∀ u:World,(Instr.index 9 (.string (t.extract 0 4)) (.int .i64 2)).run prog u=.ok (.int .u8 (hd t 2:Int)) u:=pj i 2 (by omega)
 have x3:∀ u:World,(Instr.index 9 (.string (t.extract 0 4)) (.int .i64 3)).run prog u=.ok (.int .u8 (hd t 3:Int)) u:=pj i 3 (by omega)
 have l0:=jy t 0;have l1:=jy t 1;have l2:=jy t 2;have l3:=jy t 3;obtain⟨M,N⟩:=aa9 o;have s1:=Pp (t:=t);have s2:=Pr (t:=t) (by omega);have s3:=Pt (t:=t) (by omega);have x:=fun (u:World) (h:PgR u b (lf1 t))=>q9 (n:=hd t 1) h (by omega)
 have y:=fun (u:World) (h:PgR u b (lf2 t))=>q9 (n:=hd t 2) h (by omega)
 have z:=fun (u:World) (h:PgR u b (lf3 t))=>q9 (n:=hd t 3) h (by omega)
 rw[<- N]at z;rw[M];rw[show (lf1 t).extract (hd t 1) (lf1 t).size=lf2 t from rfl]at x;rw[show (lf2 t).extract (hd t 2) (lf2 t).size=lf3 t from rfl]at y;rw[show t.extract 4 t.size=lf1 t from rfl]at s;have q1:((lf1 t).extract 0 (hd t 1)).size=hd t 1:=gk _ (by omega);have q0:(p.extract 0 (hd t 0)).size=hd t 0:=gk _ hn;have a1:(hd t 0:Int)<=(p.size:Int):=by omega
 unfold rwV;simp only;clear o M N s1 s2 s3;generalize (lf1 t).extract 0 (hd t 1)=kx at *;generalize (lf2 t).extract 0 (hd t 2)=tx at *;generalize (lf3 t).extract 0 (hd t 3)=vx at *;generalize hd t 0=n0 at *;generalize hd t 1=k1 at *;generalize hd t 2=T at *;generalize hd t 3=U at *;generalize lf1 t=t1 at *;generalize lf2 t=t2 at *;generalize lf3 t=t3 at *;generalize t.extract 0 4=hx at *;generalize lp t=tz at *;go_enter func173,ntmps173;go_wp2_with fail;refine s.mono ?_;rintro e V ⟨rfl,P,A⟩;have H:Hid (Calls _ _ _ _ _):=x _ P.drew;have W:Hid _:=y;have X:Hid _:=z;have G:Hid (World.grownBy _ _ _):=A;have L:wv V w.heap.size:=(A.block w.heap.size (by simp) (fun e=>by cases e;omega)).trans (heap_alloc_new w _);have F:=hZ L;clear s x C P y z L A;go_wp2_with fail;have a0:¬ 9223372036854775807<n0+k1:=by omega
 have v1:IntKind.i64.wrap (k1:Int)=(k1:Int):=by rw[IntKind.wrap_i64];omega
 have v2:IntKind.i64.wrap (T:Int)=(T:Int):=by rw[IntKind.wrap_i64];omega
 have v3:IntKind.i64.wrap (U:Int)=(U:Int):=by rw[IntKind.wrap_i64];omega
 have Y:some w.heap.size≠some b:=fun e=>by cases e;omega
 clear Y;go_region_law (first
  | (go_simp;go_at_call 172;refine H.out.mono ?_;clear H;rintro e D ⟨rfl,q,R⟩;have I:Hid (Calls _ _ _ _ _):=W.out _ q;have k:Hid (PgR D b t2/\V.drew.grownBy D (some b)):=⟨q,R⟩;clear q R)
  | (go_simp;go_at_call 172;refine I.out.mono ?_;clear I;rintro e E ⟨rfl,r,S⟩;have J:Hid (Calls _ _ _ _ _):=X.out _ r;have l:Hid (PgR E b t3/\D.grownBy E (some b)):=⟨r,S⟩;clear r S)
  | (go_simp;go_at_call 172;refine J.out.mono ?_;clear J;rintro e a ⟨rfl,Q,B⟩;have m:Hid (PgR a b tz/\E.grownBy a (some b)):=⟨Q,B⟩;have g:wv a w.heap.size:=Zt K F.out k.out.2 l.out.2 B;have z0:=cell_of_row _ _ 0 _ _ _ g;have z1:=cell_of_row _ _ 1 _ _ _ g;have z2:=cell_of_row _ _ 2 _ _ _ g;have fz:∀ j,a.frozen? ⟨w.heap.size,j,none⟩=false:=g.frozen;have lz:=g.lt;clear g Q B))
 all_goals
  have O:Hid (w.grownBy a (some b)):=(((ug G.out K).trans (Cj k.out.2)).trans l.out.2).trans m.out.2;have PZ:Hid (∀ c d f,PgR (((a.setCell ⟨w.heap.size,0,none⟩ c).setCell ⟨w.heap.size,1,none⟩ d).setCell ⟨w.heap.size,2,none⟩ f) b tz):=fun c d f=>(Hd a w.heap.size b c d f (by omega)).trans m.out.1
  have Z:Hid (∀ c d f,w.grownBy (((a.setCell ⟨w.heap.size,0,none⟩ c).setCell ⟨w.heap.size,1,none⟩ d).setCell ⟨w.heap.size,2,none⟩ f) (some b)):=fun c d f=>Wv O.out bR
  clear G k l m F O;go_wp2;refine bodyPost_ret (v:=.agg #[.string (p.extract 0 n0++kx),.string tx,.string vx]) ?_ rfl ⟨rfl,PZ.out _ _ _,Z.out _ _ _⟩;rw[av rfl];go_simp
def fw (w:World) (ty:TypeId) (pv:Value):Prop:=w.cell? ⟨6,0,none⟩=some (.iface ty pv)
theorem fw.lt {w:World} {ty:TypeId} {pv:Value}(h:fw w ty pv):6<w.heap.size:=ag h
theorem fw.grown {w w':World} {b:Nat} {ty:TypeId} {pv:Value}(h:fw w ty pv) (c:w.grownBy w' (some b)) (f:6<b):fw w' ty pv :=
 (World.cell?_of_block (a:=⟨6,0,none⟩) (c.block _ h.lt (fun e=>by have d:6=b:=Option.some.inj e;omega))).trans h
theorem fw.alloc {w:World} {ty:TypeId} {pv:Value}(h:fw w ty pv) (o:Obj):fw (w.alloc o) ty pv :=
 (World.cell?_of_block (a:=⟨6,0,none⟩) (Below.heap_alloc w o _ h.lt)).trans h
theorem fw.drew {w:World} {ty:TypeId} {pv:Value}(h:fw w ty pv):fw w.drew ty pv:=h
theorem Rb {w:World} {b n:Nat} {t:ByteArray} {ty:TypeId} {pv:Value}(c:fw w ty pv) (a:PgR w b t) (d:t.size<n) :
  Calls prog 172 #[.pointer (some ⟨b,0,none⟩),.int .i64 (n:Int)] w fun e w'=>e=.panicked [{ v:=.iface ty pv,recovered:=false }]/\w.grownBy w' (some b) :=
 (b26 c a d).mono fun e w' ⟨h1,h2⟩=>⟨h1,by rw[h2];exact World.grownBy.refl _ _⟩
theorem Z4 {w:World} {b:Nat} {t p:ByteArray} {ty:TypeId} {pv:Value}(L:fw w ty pv) (l:6<b) (y:PgR w b t) (o:ox p t=false) (_hp:p.size<=1048576) (a0:t.size<=1048576) :
  Calls prog 173 #[.pointer (some ⟨b,0,none⟩),.string p] w fun e w'=>e=.panicked [{ v:=.iface ty pv,recovered:=false }]/\w.grownBy w' (some b):=by
 have C:=y.lt;by_cases x:4<=t.size
 .have g:Calls prog 172 #[.pointer (some ⟨b,0,none⟩),.int .i64 4] _ _:=q9 (n:=4) (y.alloc (.cells #[.string ⟨#[]⟩,.string ⟨#[]⟩,.string ⟨#[]⟩] 37)) x
  have E:=L.alloc (.cells #[.string ⟨#[]⟩,.string ⟨#[]⟩,.string ⟨#[]⟩] 37);have x0:∀ u:World,(Instr.index 9 (.string (t.extract 0 4)) (.int .i64 0)).run prog u=.ok (.int .u8 (hd t 0:Int)) u:=pj x 0 (by omega)
  have x1:∀ u:World,(Instr.index 9 (.string (t.extract 0 4)) (.int .i64 1)).run prog u=.ok (.int .u8 (hd t 1:Int)) u:=pj x 1 (by omega)
  have x2:∀ u:World,(Instr.index 9 (.string (t.extract 0 4)) (.int .i64 2)).run prog u=.ok (.int .u8 (hd t 2:Int)) u:=pj x 2 (by omega)
  have x3:∀ u:World,(Instr.index 9 (.string (t.extract 0 4)) (.int .i64 3)).run prog u=.ok (.int .u8 (hd t 3:Int)) u:=pj x 3 (by omega)
  have l0:=jy t 0;have l1:=jy t 1;have l2:=jy t 2;have l3:=jy t 3;rw[show t.extract 4 t.size=lf1 t from rfl]at g;by_cases M:hd t 0<=p.size
  .have s1:=Pp (t:=t)
   have U:(hd t 0:Int)<=(p.size:Int):=by omega
   have q0:(p.extract 0 (hd t 0)).size=hd t 0:=gk _ M;have s:=fun (u:World) (N:ByteArray) (m:Nat) (r:fw u ty pv) (h:PgR u b N) (hm:N.size<m)=>Rb (n:=m) r h hm
   by_cases Y:4+hd t 1<=t.size
   .have s2:=Pr (t:=t) Y
    have D:=fun (u:World) (h:PgR u b (lf1 t))=>q9 (n:=hd t 1) h (by omega)
    rw[show (lf1 t).extract (hd t 1) (lf1 t).size=lf2 t from rfl]at D;have q1:((lf1 t).extract 0 (hd t 1)).size=hd t 1:=gk _ (by omega);by_cases Z:4+hd t 1+hd t 2<=t.size
    .have s3:=Pt (t:=t) Z
     have hC:¬ 4+hd t 1+hd t 2+hd t 3<=t.size:=fun h=>by
      unfold ox at o;rw[decide_eq_true x,decide_eq_true M,decide_eq_true h]at o
      cases o
     have J:=fun (u:World) (h:PgR u b (lf2 t))=>q9 (n:=hd t 2) h (by omega)
     rw[show (lf2 t).extract (hd t 2) (lf2 t).size=lf3 t from rfl]at J;have k:=fun (u:World) (r:fw u ty pv) (h:PgR u b (lf3 t))=>s u (lf3 t) (hd t 3) r h (by omega)
     generalize (lf1 t).extract 0 (hd t 1)=kx at *;generalize (lf2 t).extract 0 (hd t 2)=tx at *;generalize hd t 0=f at *;generalize hd t 1=k1 at *;generalize hd t 2=c at *;generalize hd t 3=d at *;generalize lf1 t=t1 at *;generalize lf2 t=t2 at *;generalize lf3 t=t3 at *;generalize t.extract 0 4=hx at *;go_enter func173,ntmps173;go_wp2_with fail;refine g.mono ?_;rintro e z ⟨rfl,j,a⟩;have H:Hid (Calls _ _ _ _ _):=D _ j.drew;have G:=hZ (E.grown a l);have A:Hid (World.grownBy _ _ _):=ug a C;have B:Hid _:=k;have S:Hid _:=J;clear g k s D y j a o J;go_wp2_with fail;have O:IntKind.i64.wrap (k1:Int)=(k1:Int):=by rw[IntKind.wrap_i64];omega
     have P:IntKind.i64.wrap (c:Int)=(c:Int):=by rw[IntKind.wrap_i64];omega
     have Q:IntKind.i64.wrap (d:Int)=(d:Int):=by rw[IntKind.wrap_i64];omega
     have T:¬ 9223372036854775807<f+k1:=by omega
     refine wp_region_any (by kernel_rfl) ?_;refine wpAny_take (i:=0) (v:=.string p) rfl (by kernel_rfl) (by kernel_rfl) (by kernel_rfl) (fun _ _ _ h=>h) (Or.inl ⟨by rfl,fun u=>(by go_simp)⟩) ?_;refine wpAny_take (i:=1) (v:=.int .i64 (f:Int)) rfl (by kernel_rfl) (by kernel_rfl) (by kernel_rfl) (fun _ _ _ h=>h) (Or.inl ⟨by rfl,fun u=>(by go_simp)⟩) ?_;refine wpAny_take (i:=2) (v:=.string (p.extract 0 f)) rfl (by kernel_rfl) (by kernel_rfl) (by kernel_rfl) (fun _ _ _ h=>h) (Or.inl ⟨by rfl,fun u=>(by go_simp)⟩) ?_;refine wpAny_take (i:=3) (v:=.pointer (some ⟨b,0,none⟩)) rfl (by kernel_rfl) (by kernel_rfl) (by kernel_rfl) (fun _ _ _ h=>h) (Or.inl ⟨by rfl,fun u=>(by go_simp)⟩) ?_;refine wpAny_take (i:=4) (v:=.string hx) rfl (by kernel_rfl) (by kernel_rfl) (by kernel_rfl) (fun _ _ _ h=>h) (Or.inl ⟨by rfl,fun u=>(by go_simp)⟩) ?_
     refine wpAny_take (i:=5) (v:=.int .u8 (k1:Int)) rfl (by kernel_rfl) (by kernel_rfl) (by kernel_rfl) (fun _ _ _ h=>h) (Or.inl ⟨by rfl,fun u=>(by go_simp)⟩) ?_;refine wpAny_take (i:=6) (v:=.int .i64 (k1:Int)) rfl (by kernel_rfl) (by kernel_rfl) (by kernel_rfl) (fun _ _ _ h=>h) (Or.inl ⟨by rfl,fun u=>(by go_simp)⟩) ?_;refine wpAny_take (i:=9) (v:=.pointer (some ⟨b,0,none⟩)) rfl (by kernel_rfl) (by kernel_rfl) (by kernel_rfl) (fun _ _ _ h=>h) (Or.inl ⟨by rfl,fun u=>(by go_simp)⟩) ?_;refine wpAny_take (i:=10) (v:=.string hx) rfl (by kernel_rfl) (by kernel_rfl) (by kernel_rfl) (fun _ _ _ h=>h) (Or.inl ⟨by rfl,fun u=>(by go_simp)⟩) ?_;refine wpAny_take (i:=11) (v:=.int .u8 (c:Int)) rfl (by kernel_rfl) (by kernel_rfl) (by kernel_rfl) (fun _ _ _ h=>h) (Or.inl ⟨by rfl,fun u=>(by go_simp)⟩) ?_
     refine wpAny_take (i:=12) (v:=.int .i64 (c:Int)) rfl (by kernel_rfl) (by kernel_rfl) (by kernel_rfl) (fun _ _ _ h=>h) (Or.inl ⟨by rfl,fun u=>(by go_simp)⟩) ?_;refine wpAny_take (i:=14) (v:=.pointer (some ⟨b,0,none⟩)) rfl (by kernel_rfl) (by kernel_rfl) (by kernel_rfl) (fun _ _ _ h=>h) (Or.inl ⟨by rfl,fun u=>(by go_simp)⟩) ?_;refine wpAny_take (i:=15) (v:=.string hx) rfl (by kernel_rfl) (by kernel_rfl) (by kernel_rfl) (fun _ _ _ h=>h) (Or.inl ⟨by rfl,fun u=>(by go_simp)⟩) ?_;refine wpAny_take (i:=16) (v:=.int .u8 (d:Int)) rfl (by kernel_rfl) (by kernel_rfl) (by kernel_rfl) (fun _ _ _ h=>h) (Or.inl ⟨by rfl,fun u=>(by go_simp)⟩) ?_;refine wpAny_take (i:=17) (v:=.int .i64 (d:Int)) rfl (by kernel_rfl) (by kernel_rfl) (by kernel_rfl) (fun _ _ _ h=>h) (Or.inl ⟨by rfl,fun u=>(by go_simp)⟩) ?_;refine wpAny_ready (rs:=[7]) (by kernel_rfl) (by simp) ?_
     refine AllReady.cons rfl (fun K hK=>?_) AllReady.nil;go_simp;go_at_call 172
     refine H.out.mono ?_;rintro e R ⟨rfl,I,q⟩;refine hK _ _ ?_;clear hK;refine wpAny_take (i:=8) (v:=.string (p.extract 0 f++kx)) rfl (by kernel_rfl) (by kernel_rfl) (by kernel_rfl) (fun _ _ _ h=>h) (Or.inl ⟨by rfl,fun u=>(by go_simp)⟩) ?_;refine wpAny_ready (rs:=[13]) (by kernel_rfl) (by simp) ?_;refine AllReady.cons rfl (fun K hK=>?_) AllReady.nil;go_simp;go_at_call 172
     refine (S.out _ I).mono ?_;rintro e w3 ⟨rfl,W,F⟩;refine hK _ _ ?_;clear hK;refine wpAny_ready (rs:=[18]) (by kernel_rfl) (by simp) ?_;refine AllReady.cons rfl (fun K hK=>?_) AllReady.nil;go_simp;go_at_call 172
     refine (B.out _ (((G.out.drew).grown q l).grown F l) W).mono ?_;rintro e w4 ⟨rfl,X⟩;exact⟨rfl,rfl,((A.out.trans (Cj q)).trans F).trans X⟩
    .have k:=fun (u:World) (r:fw u ty pv) (h:PgR u b (lf2 t))=>s u (lf2 t) (hd t 2) r h (by omega)
     generalize (lf1 t).extract 0 (hd t 1)=kx at *;generalize hd t 0=f at *;generalize hd t 1=k1 at *;generalize hd t 2=c at *;generalize hd t 3=d at *;generalize lf1 t=t1 at *;generalize lf2 t=t2 at *;generalize t.extract 0 4=hx at *;go_enter func173,ntmps173;go_wp2_with fail;refine g.mono ?_;rintro e z ⟨rfl,j,a⟩;have H:Hid (Calls _ _ _ _ _):=D _ j.drew;have G:=hZ (E.grown a l);have A:Hid (World.grownBy _ _ _):=ug a C;have B:Hid _:=k;clear g k s D y j a o;go_wp2_with fail;have O:IntKind.i64.wrap (k1:Int)=(k1:Int):=by rw[IntKind.wrap_i64];omega
     have P:IntKind.i64.wrap (c:Int)=(c:Int):=by rw[IntKind.wrap_i64];omega
     have Q:IntKind.i64.wrap (d:Int)=(d:Int):=by rw[IntKind.wrap_i64];omega
     have T:¬ 9223372036854775807<f+k1:=by omega
     refine wp_region_any (by kernel_rfl) ?_;refine wpAny_take (i:=0) (v:=.string p) rfl (by kernel_rfl) (by kernel_rfl) (by kernel_rfl) (fun _ _ _ h=>h) (Or.inl ⟨by rfl,fun u=>(by go_simp)⟩) ?_;refine wpAny_take (i:=1) (v:=.int .i64 (f:Int)) rfl (by kernel_rfl) (by kernel_rfl) (by kernel_rfl) (fun _ _ _ h=>h) (Or.inl ⟨by rfl,fun u=>(by go_simp)⟩) ?_;refine wpAny_take (i:=2) (v:=.string (p.extract 0 f)) rfl (by kernel_rfl) (by kernel_rfl) (by kernel_rfl) (fun _ _ _ h=>h) (Or.inl ⟨by rfl,fun u=>(by go_simp)⟩) ?_;refine wpAny_take (i:=3) (v:=.pointer (some ⟨b,0,none⟩)) rfl (by kernel_rfl) (by kernel_rfl) (by kernel_rfl) (fun _ _ _ h=>h) (Or.inl ⟨by rfl,fun u=>(by go_simp)⟩) ?_;refine wpAny_take (i:=4) (v:=.string hx) rfl (by kernel_rfl) (by kernel_rfl) (by kernel_rfl) (fun _ _ _ h=>h) (Or.inl ⟨by rfl,fun u=>(by go_simp)⟩) ?_
     refine wpAny_take (i:=5) (v:=.int .u8 (k1:Int)) rfl (by kernel_rfl) (by kernel_rfl) (by kernel_rfl) (fun _ _ _ h=>h) (Or.inl ⟨by rfl,fun u=>(by go_simp)⟩) ?_;refine wpAny_take (i:=6) (v:=.int .i64 (k1:Int)) rfl (by kernel_rfl) (by kernel_rfl) (by kernel_rfl) (fun _ _ _ h=>h) (Or.inl ⟨by rfl,fun u=>(by go_simp)⟩) ?_;refine wpAny_take (i:=9) (v:=.pointer (some ⟨b,0,none⟩)) rfl (by kernel_rfl) (by kernel_rfl) (by kernel_rfl) (fun _ _ _ h=>h) (Or.inl ⟨by rfl,fun u=>(by go_simp)⟩) ?_;refine wpAny_take (i:=10) (v:=.string hx) rfl (by kernel_rfl) (by kernel_rfl) (by kernel_rfl) (fun _ _ _ h=>h) (Or.inl ⟨by rfl,fun u=>(by go_simp)⟩) ?_;refine wpAny_take (i:=11) (v:=.int .u8 (c:Int)) rfl (by kernel_rfl) (by kernel_rfl) (by kernel_rfl) (fun _ _ _ h=>h) (Or.inl ⟨by rfl,fun u=>(by go_simp)⟩) ?_
     refine wpAny_take (i:=12) (v:=.int .i64 (c:Int)) rfl (by kernel_rfl) (by kernel_rfl) (by kernel_rfl) (fun _ _ _ h=>h) (Or.inl ⟨by rfl,fun u=>(by go_simp)⟩) ?_;refine wpAny_take (i:=14) (v:=.pointer (some ⟨b,0,none⟩)) rfl (by kernel_rfl) (by kernel_rfl) (by kernel_rfl) (fun _ _ _ h=>h) (Or.inl ⟨by rfl,fun u=>(by go_simp)⟩) ?_;refine wpAny_take (i:=15) (v:=.string hx) rfl (by kernel_rfl) (by kernel_rfl) (by kernel_rfl) (fun _ _ _ h=>h) (Or.inl ⟨by rfl,fun u=>(by go_simp)⟩) ?_;refine wpAny_take (i:=16) (v:=.int .u8 (d:Int)) rfl (by kernel_rfl) (by kernel_rfl) (by kernel_rfl) (fun _ _ _ h=>h) (Or.inl ⟨by rfl,fun u=>(by go_simp)⟩) ?_;refine wpAny_take (i:=17) (v:=.int .i64 (d:Int)) rfl (by kernel_rfl) (by kernel_rfl) (by kernel_rfl) (fun _ _ _ h=>h) (Or.inl ⟨by rfl,fun u=>(by go_simp)⟩) ?_;refine wpAny_ready (rs:=[7]) (by kernel_rfl) (by simp) ?_
     refine AllReady.cons rfl (fun K hK=>?_) AllReady.nil;go_simp;go_at_call 172
     refine H.out.mono ?_;rintro e R ⟨rfl,I,q⟩;refine hK _ _ ?_;clear hK;refine wpAny_take (i:=8) (v:=.string (p.extract 0 f++kx)) rfl (by kernel_rfl) (by kernel_rfl) (by kernel_rfl) (fun _ _ _ h=>h) (Or.inl ⟨by rfl,fun u=>(by go_simp)⟩) ?_;refine wpAny_ready (rs:=[13]) (by kernel_rfl) (by simp) ?_;refine AllReady.cons rfl (fun K hK=>?_) AllReady.nil;go_simp;go_at_call 172
     refine (B.out _ ((G.out.drew).grown q l) I).mono ?_;rintro e w3 ⟨rfl,F⟩;exact⟨rfl,rfl,(A.out.trans (Cj q)).trans F⟩
   .have k:=fun (u:World) (r:fw u ty pv) (h:PgR u b (lf1 t))=>s u (lf1 t) (hd t 1) r h (by omega)
    generalize hd t 0=f at *;generalize hd t 1=k1 at *;generalize hd t 2=c at *;generalize hd t 3=d at *;generalize lf1 t=t1 at *;generalize t.extract 0 4=hx at *;go_enter func173,ntmps173;go_wp2_with fail;refine g.mono ?_;rintro e z ⟨rfl,j,a⟩;have B:Hid (Calls _ _ _ _ _):=k _ (E.grown a l).drew j.drew;have A:Hid (World.grownBy _ _ _):=ug a C;clear g k s y j a o;go_wp2_with fail;have O:IntKind.i64.wrap (k1:Int)=(k1:Int):=by rw[IntKind.wrap_i64];omega
    have P:IntKind.i64.wrap (c:Int)=(c:Int):=by rw[IntKind.wrap_i64];omega
    have Q:IntKind.i64.wrap (d:Int)=(d:Int):=by rw[IntKind.wrap_i64];omega
    refine wp_region_any (by kernel_rfl) ?_;refine wpAny_take (i:=0) (v:=.string p) rfl (by kernel_rfl) (by kernel_rfl) (by kernel_rfl) (fun _ _ _ h=>h) (Or.inl ⟨by rfl,fun u=>(by go_simp)⟩) ?_;refine wpAny_take (i:=1) (v:=.int .i64 (f:Int)) rfl (by kernel_rfl) (by kernel_rfl) (by kernel_rfl) (fun _ _ _ h=>h) (Or.inl ⟨by rfl,fun u=>(by go_simp)⟩) ?_;refine wpAny_take (i:=2) (v:=.string (p.extract 0 f)) rfl (by kernel_rfl) (by kernel_rfl) (by kernel_rfl) (fun _ _ _ h=>h) (Or.inl ⟨by rfl,fun u=>(by go_simp)⟩) ?_;refine wpAny_take (i:=3) (v:=.pointer (some ⟨b,0,none⟩)) rfl (by kernel_rfl) (by kernel_rfl) (by kernel_rfl) (fun _ _ _ h=>h) (Or.inl ⟨by rfl,fun u=>(by go_simp)⟩) ?_;refine wpAny_take (i:=4) (v:=.string hx) rfl (by kernel_rfl) (by kernel_rfl) (by kernel_rfl) (fun _ _ _ h=>h) (Or.inl ⟨by rfl,fun u=>(by go_simp)⟩) ?_
    refine wpAny_take (i:=5) (v:=.int .u8 (k1:Int)) rfl (by kernel_rfl) (by kernel_rfl) (by kernel_rfl) (fun _ _ _ h=>h) (Or.inl ⟨by rfl,fun u=>(by go_simp)⟩) ?_;refine wpAny_take (i:=6) (v:=.int .i64 (k1:Int)) rfl (by kernel_rfl) (by kernel_rfl) (by kernel_rfl) (fun _ _ _ h=>h) (Or.inl ⟨by rfl,fun u=>(by go_simp)⟩) ?_;refine wpAny_take (i:=9) (v:=.pointer (some ⟨b,0,none⟩)) rfl (by kernel_rfl) (by kernel_rfl) (by kernel_rfl) (fun _ _ _ h=>h) (Or.inl ⟨by rfl,fun u=>(by go_simp)⟩) ?_;refine wpAny_take (i:=10) (v:=.string hx) rfl (by kernel_rfl) (by kernel_rfl) (by kernel_rfl) (fun _ _ _ h=>h) (Or.inl ⟨by rfl,fun u=>(by go_simp)⟩) ?_;refine wpAny_take (i:=11) (v:=.int .u8 (c:Int)) rfl (by kernel_rfl) (by kernel_rfl) (by kernel_rfl) (fun _ _ _ h=>h) (Or.inl ⟨by rfl,fun u=>(by go_simp)⟩) ?_
    refine wpAny_take (i:=12) (v:=.int .i64 (c:Int)) rfl (by kernel_rfl) (by kernel_rfl) (by kernel_rfl) (fun _ _ _ h=>h) (Or.inl ⟨by rfl,fun u=>(by go_simp)⟩) ?_;refine wpAny_take (i:=14) (v:=.pointer (some ⟨b,0,none⟩)) rfl (by kernel_rfl) (by kernel_rfl) (by kernel_rfl) (fun _ _ _ h=>h) (Or.inl ⟨by rfl,fun u=>(by go_simp)⟩) ?_;refine wpAny_take (i:=15) (v:=.string hx) rfl (by kernel_rfl) (by kernel_rfl) (by kernel_rfl) (fun _ _ _ h=>h) (Or.inl ⟨by rfl,fun u=>(by go_simp)⟩) ?_;refine wpAny_take (i:=16) (v:=.int .u8 (d:Int)) rfl (by kernel_rfl) (by kernel_rfl) (by kernel_rfl) (fun _ _ _ h=>h) (Or.inl ⟨by rfl,fun u=>(by go_simp)⟩) ?_;refine wpAny_take (i:=17) (v:=.int .i64 (d:Int)) rfl (by kernel_rfl) (by kernel_rfl) (by kernel_rfl) (fun _ _ _ h=>h) (Or.inl ⟨by rfl,fun u=>(by go_simp)⟩) ?_;refine wpAny_ready (rs:=[7]) (by kernel_rfl) (by simp) ?_
    refine AllReady.cons rfl (fun K hK=>?_) AllReady.nil;go_simp;go_at_call 172
    refine B.out.mono ?_;rintro e R ⟨rfl,q⟩;exact⟨rfl,rfl,A.out.trans (Cj q)⟩
  .have U:¬ (hd t 0:Int)<=(p.size:Int):=by omega
   generalize hd t 0=f at *;clear x1 x2 x3 o;go_enter func173,ntmps173;go_wp2_with fail;refine g.mono ?_;rintro e z ⟨rfl,j,a⟩;have c1:z.cell? ⟨6,0,none⟩=some (.iface ty pv):=E.grown a l;have V:Hid (w.grownBy z (some b)):=ug a C;clear g j a;go_wp2;exact⟨rfl,rfl,V.out⟩
 .have g:Calls prog 172 #[.pointer (some ⟨b,0,none⟩),.int .i64 4] _ _:=Rb (n:=4) (L.alloc (.cells #[.string ⟨#[]⟩,.string ⟨#[]⟩,.string ⟨#[]⟩] 37)) (y.alloc (.cells #[.string ⟨#[]⟩,.string ⟨#[]⟩,.string ⟨#[]⟩] 37)) (by omega)
  go_enter func173,ntmps173;go_wp2_with fail;refine g.mono ?_;rintro e z ⟨rfl,a⟩;exact⟨rfl,rfl,ug a C⟩
def be1 (w:World) (l:List Rw) (lim:Nat) (v3 v4 i:Value) (wr:World):Prop :=
 ∃ k:Nat,k<=l.length/\i=.int .i64 k/\v3=.int .i64 ((lnP (l.take k):Nat):Int)/\v4=.string (ft ⟨#[]⟩ (l.take k))/\(∀ j,j<k->lnP (l.take (j+1))<=lim)/\Below w.heap.size w wr
theorem am1 {l:List Rw} {k:Nat} {x:Rw}(h:l[k]? = some x):lnP (l.take (k+1))=lnP (l.take k)+(jp (ft ⟨#[]⟩ (l.take k)) x).length:=by
 rw[List.take_add_one,h];exact Hz _ x
theorem Tb {l:List Rw}(h:RwB l) (k:Nat):lnP (l.take k)<=196098:=by
 rw[Bm];have:=uz h k;omega
theorem Zb {w:World} {a:Option Addr} {l:List Rw} {cap:Nat}(c:Nat) (H:dc w a l) (G:RwB l) (a3:c<=1048576) :
  Calls prog 161 #[.slice a l.length cap,.int .i64 (c:Int)] w fun e w'=>e=.returned (.int .i64 (wn l c:Int))/\Below w.heap.size w w':=by
 have hl:=G.1;have D:=hZ G;clear G;obtain⟨P,E⟩:∃ P,Hid (wn l c=P):=⟨_,rfl⟩
 rw[E.out];go_enter func161,ntmps161;go_wp2;go_loopw [5,6,11] (fun v3 v4 i wr=>be1 w l c v3 v4 i wr) (fun _ _ i _=>l.length-(intOf i).toNat)
 case atStart=>exact⟨0,Nat.zero_le _,rfl,rfl,rfl,fun j hj=>by omega,bX⟩
 case round =>
  obtain⟨k,hk,rfl,rfl,rfl,y,q⟩:=hrel;by_cases B:k<l.length
  .obtain⟨x,g⟩:∃ x,l[k]? = some x:=⟨_,List.getElem?_eq_getElem B⟩
   have U:=H.below q bR;rcases U with rfl|⟨b,o,rfl,R⟩
   .simp at g
   obtain⟨F,N,O⟩:=R k x g;have I:=ag F;have a7:(k:Int)<(l.length:Int):=by omega
   have J:=q.alloc q.size (.cells #[.string x.key,.string x.text,.string x.val] 37);have K:=D.out.at g;have a4:=qx D.out k;have a5:=Tb D.out k;have Z:=Ay (p:=ft ⟨#[]⟩ (l.take k)) K;have h:=fun u=>K9 (ft ⟨#[]⟩ (l.take k)) x (by omega) (by omega) (by omega) (by omega) u
   have M:Hid _:=am1 g;have L:Hid _:=xq ⟨#[]⟩ g;have d:Hid _:=J;have v:=hZ y;have V:wr.heap.size<(wr.alloc (.cells #[.string x.key,.string x.text,.string x.val] 37)).heap.size:=by simp
   have Q:(wr.alloc (.cells #[.string x.key,.string x.text,.string x.val] 37)).cell? ⟨wr.heap.size,0,none⟩=some (.string x.key):=by simp
   obtain⟨m,s⟩:∃ m,Hid (m=lnP (l.take k)):=⟨_,rfl⟩
   rw[<- s.out];have hm:m<=200000:=by have:=s.out;omega
   obtain⟨n,t⟩:∃ n,Hid (n=(jp (ft ⟨#[]⟩ (l.take k)) x).length):=⟨_,rfl⟩
   rw[<- t.out]at h;have hn:n<=769:=by have:=t.out;omega
   have r:Hid (lnP (l.take (k+1))=m+n):=by show _=_;rw[M.out,<- s.out,<- t.out]
   generalize ft ⟨#[]⟩ (l.take k)=pk at *;have C:Hid _:=Q;clear R g H q J K a4 a5 Z Q y M s t;by_cases W:c<m+n
   .have X:(c:Int)<(m:Int)+(n:Int):=by omega
    have A:Hid (P=k):=by show _=_;rw[<- E.out];exact bg5 B v.out (by rw[r.out];exact W)
    clear v r L;go_wp2_with fail;refine (h _).mono ?_;rintro e S ⟨rfl,f⟩;have z:=hZ (d.out.trans (f.mono d.out.size));clear C d f h F N O I;go_wp2;go_ret;rw[A.out];exact⟨rfl,z.out⟩
   .have X:¬ (c:Int)<(m:Int)+(n:Int):=by omega
    have T:Hid (∀ j,j<k+1->lnP (l.take (j+1))<=c):=fun j hj=>by
     by_cases e:j=k
     .rw[e,r.out];omega
     .exact v.out j (by omega)
    clear v;go_wp2_with fail;refine (h _).mono ?_;rintro e S ⟨rfl,f⟩;have a6:S.cell? ⟨wr.heap.size,0,none⟩=some (.string x.key):=by rw[f.cell V];exact C.out
    have z:=hZ (d.out.trans (f.mono d.out.size));clear C d f h F N O I;go_wp2;refine⟨⟨k+1,B,by go_num,?_,by rw[L.out],T.out,z.out⟩,by simp[intOf];omega⟩;rw[r.out];go_num
  .have Y:k=l.length:=by omega
   subst Y;have A:Hid (P=l.length):=by show _=_;rw[<- E.out];exact ba4 y
   clear H y;go_wp2;go_ret;rw[A.out];exact⟨rfl,q⟩
end Go.Proofs.YtjbmgghehdemdaaGreatDoor
