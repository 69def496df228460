/- IIsE7 -/
import Derived.Test.YtjbmgghehdemdaaGreatDoorMP32
import Derived.LaidEql
import Derived.Stop.Asserts
import Derived.RowKitTokens
namespace Go.Proofs.YtjbmgghehdemdaaGreatDoor
set_option maxRecDepth 100000
set_option maxHeartbeats 16000000
open _root_.Go.Proofs.Tryz
open Go.RowKit Go.Extern.Stop Go.Stop Go.Extern
theorem Dz (v:Value) (w:World):(Extern.ReflectliteType.typeOf #[.iface 298 v]).run prog w=.ok (.iface 191 (.agg #[.pointer (some ⟨12,298,none⟩)])) w:=by kernel_rfl
theorem wv (w:World):((Extern.ReflectliteType.method fun t=>do Go.Extern.Rtype.noPackHeld "Comparable" t;(fun a=>Value.bool a.comparable) <$> typeInfo t) #[.agg #[.pointer (some ⟨12,298,none⟩)]]).run prog w=.ok (.bool true) w:=by kernel_rfl
theorem Kr (k:Nat) (v:Value) (w:World):(Go.method (k+1) 191 v "Comparable").run prog w=.ok (260,v) w:=by kernel_rfl
theorem Kq:(prog.info? 298).map (·.comparable)=some true:=by kernel_rfl
theorem Ks:(prog.info? 316).map (·.size)=some 1:=by kernel_rfl
theorem Pp (v:Value) (a:TypeId) (w:World):(Instr.typeAssert (.iface 298 v) a 212 true).run prog w=.ok (.tuple #[.nilIface,.bool false]) w:=run_typeAssert_lacksB underlying212 (by kernel_rfl) (by kernel_rfl) v a w
theorem Ck (v:Value) (a:TypeId) (w:World):(Instr.typeAssert (.iface 298 v) a 198 true).run prog w=.ok (.tuple #[.nilIface,.bool false]) w:=run_typeAssert_lacksB underlying198 (by kernel_rfl) (by kernel_rfl) v a w
theorem Al (v:Value) (a:TypeId) (w:World):(Instr.typeAssert (.iface 298 v) a 199 true).run prog w=.ok (.tuple #[.nilIface,.bool false]) w:=run_typeAssert_lacksB underlying199 (by kernel_rfl) (by kernel_rfl) v a w
theorem Pq (v:Value) (a:TypeId) (w:World):(Instr.typeAssert (.iface 98 v) a 212 true).run prog w=.ok (.tuple #[.nilIface,.bool false]) w:=run_typeAssert_lacksB underlying212 (by kernel_rfl) (by kernel_rfl) v a w
theorem Ai (v:Value) (a:TypeId) (w:World):(Instr.typeAssert (.iface 98 v) a 198 true).run prog w=.ok (.tuple #[.iface 98 v,.bool true]) w:=run_typeAssert_hasB underlying198 (by kernel_rfl) v a w
theorem Ak (k:Nat) (v:Value) (w:World):(Go.method (k+1) 98 v "Unwrap").run prog w=.ok (253,v) w:=by kernel_rfl
theorem Ho (a:Addr) (w:World) :
  Calls prog 76 #[.iface 298 (.pointer (some a)),.iface 298 (.pointer (some a))] w fun e w'=>e=.returned (.bool true)/\w'=w:=by
 obtain⟨i,c,b⟩:=Option.map_eq_some_iff.1 Kq;obtain⟨j,d,h⟩:=Option.map_eq_some_iff.1 Ks;have l:=@run_callFunc_extern prog 113 _ Extern.ReflectliteType.typeOf func113 (by kernel_rfl) (by kernel_rfl) (by kernel_rfl) (by kernel_rfl);have f:=@run_callFunc_extern prog 260 _ (Extern.ReflectliteType.method fun t=>do Go.Extern.Rtype.noPackHeld "Comparable" t;pure (.bool (<- typeInfo t).comparable)) func260 (by kernel_rfl) (by kernel_rfl) (by kernel_rfl) (by kernel_rfl);have q:=Dz;have k:=wv;have m:=Kr;have o:=Pp;have r:=Ck;have u:=Al;have p:=Pq;have s:=Ai;have n:=Ak;have g:=run_eql_iface_ptr_same (P:=prog) w a underlying73 underlying298 c b d;go_enter func76,ntmps76;go_wp2;refine wp_loop_rounds 1 ?_;rw[rounds_succ];go_wp2;go_ret;exact⟨rfl,rfl⟩
theorem rm (a b:Addr) (g h:Array Value) (o p:TypeId) (w:World) (f:a≠b) (k:w.heap[a.block]? = some (.cells g o (0,0))) (l:w.heap[b.block]? = some (.cells h p (0,0))) :
  Calls prog 76 #[.iface 298 (.pointer (some a)),.iface 298 (.pointer (some b))] w fun e w'=>e=.returned (.bool false)/\w'=w:=by
 obtain⟨i,m,c⟩:=Option.map_eq_some_iff.1 Kq;obtain⟨j,n,d⟩:=Option.map_eq_some_iff.1 Ks;have u:=@run_callFunc_extern prog 113 _ Extern.ReflectliteType.typeOf func113 (by kernel_rfl) (by kernel_rfl) (by kernel_rfl) (by kernel_rfl);have q:=@run_callFunc_extern prog 260 _ (Extern.ReflectliteType.method fun t=>do Go.Extern.Rtype.noPackHeld "Comparable" t;pure (.bool (<- typeInfo t).comparable)) func260 (by kernel_rfl) (by kernel_rfl) (by kernel_rfl) (by kernel_rfl);have A:=Dz;have s:=wv;have v:=Kr;have y:=Pp;have B:=Ck;have D:=Al;have z:=Pq;have C:=Ai;have x:=Ak;have r:=run_eql_iface_ptr_other (P:=prog) w underlying73 underlying298 m c n (by rw[d];decide) f k l;go_enter func76,ntmps76;go_wp2;refine wp_loop_rounds 1 ?_;rw[rounds_succ];go_wp2
 go_ret;exact⟨rfl,rfl⟩
theorem Hp (n:Int) (a b:Addr) (q r:Array Value) (x y:TypeId) (w:World) (s:w.cell? ⟨0,0,none⟩=some (.iface 298 (.pointer (some a)))) (p:a≠b) (d:w.heap[a.block]? = some (.cells q x (0,0))) (f:w.heap[b.block]? = some (.cells r y (0,0))) :
  Calls prog 76 #[.iface 98 (.agg #[.int .i64 n]),.iface 298 (.pointer (some b))] w fun e w'=>e=.returned (.bool false)/\Below w.heap.size w w':=by
 obtain⟨i,u,l⟩:=Option.map_eq_some_iff.1 Kq;obtain⟨j,v,m⟩:=Option.map_eq_some_iff.1 Ks;have E:=@run_callFunc_extern prog 113 _ Extern.ReflectliteType.typeOf func113 (by kernel_rfl) (by kernel_rfl) (by kernel_rfl) (by kernel_rfl);have z:=@run_callFunc_extern prog 260 _ (Extern.ReflectliteType.method fun t=>do Go.Extern.Rtype.noPackHeld "Comparable" t;pure (.bool (<- typeInfo t).comparable)) func260 (by kernel_rfl) (by kernel_rfl) (by kernel_rfl) (by kernel_rfl);have J:=Dz;have D:=wv;have F:=Kr;have H:=Pp;have K:=Ck;have M:=Al;have I:=Pq;have L:=Ai;have G:=Ak;have A:=ag s;have c:=(Below.refl w.heap.size w).alloc bR (.cells #[.int .i64 n] 98);have k:Hid (∀ o,Below w.heap.size w (w.alloc o)):=fun o=>bY o
 have g:=(c.block a.block (Array.getElem?_eq_some_iff.1 d).1).trans d;have h:=(c.block b.block (Array.getElem?_eq_some_iff.1 f).1).trans f;have B:=run_eql_iface_ptr_other (P:=prog) (w.alloc (.cells #[.int .i64 n] 98)) underlying73 underlying298 u l v (by rw[m];decide) p g h;have C:=run_eql_iface_types (P:=prog) 98 298 (.agg #[.int .i64 n]) (.pointer (some b)) underlying73 (by decide) w;clear d f g h c;go_enter func76,ntmps76;go_wp2;refine wp_loop_rounds 2 ?_;rw[rounds_succ];go_wp2;rw[rounds_succ];go_wp2;go_ret;exact⟨rfl,k.out _⟩
open Go.RowKit
structure Es7 (w:World) (pb pl pf pn:Addr):Prop where
 ev:Ev7 w pb pl pf pn
 rb:∃ c t,w.heap[pb.block]? = some (.cells c t (0,0))
 rl:∃ c t,w.heap[pl.block]? = some (.cells c t (0,0))
 rf:∃ c t,w.heap[pf.block]? = some (.cells c t (0,0))
 rn:∃ c t,w.heap[pn.block]? = some (.cells c t (0,0))
 bl:pb≠pl
 bf:pb≠pf
 bn:pb≠pn
 lf:pl≠pf
 ln:pl≠pn
 fn:pf≠pn
theorem zw {w w':World} {p:Addr}(h:∃ c t,w.heap[p.block]? = some (.cells c t (0,0))) (a:Below w.heap.size w w'):∃ c t,w'.heap[p.block]? = some (.cells c t (0,0)):=by
 obtain⟨c,t,h⟩:=h;exact⟨c,t,(a.block p.block (Array.getElem?_eq_some_iff.1 h).1).trans h⟩
theorem Es7.below {w w':World} {pb pl pf pn:Addr}(h:Es7 w pb pl pf pn) (a:Below w.heap.size w w'):Es7 w' pb pl pf pn :=
 ⟨h.ev.below a,zw h.rb a,zw h.rl a,zw h.rf a,zw h.rn a,h.bl,h.bf,h.bn,h.lf,h.ln,h.fn⟩
def V2 (pb pl pf pn:Addr) (ev:Value) (c:Int):Prop :=
 (ev=.nilIface/\c=0)\/(Bk pb ev/\c=1)\/(ev=.iface 298 (.pointer (some pl))/\c=2)\/(ev=.iface 298 (.pointer (some pf))/\c=3)\/(ev=.iface 298 (.pointer (some pn))/\c=4)
theorem xh {w:World} {pb pl pf pn:Addr} {I:Value} {c:Int}(b:Es7 w pb pl pf pn) (h:V2 pb pl pf pn I c) :
  Calls prog 31 #[I] w fun e w'=>e=.returned (.int .i64 c)/\Below w.heap.size w w':=by
 have N:=b.ev.long;have D:=b.ev.full;have E:=b.ev.none_;have P:=ag N;have L:=ag D;have M:=ag E;obtain⟨o,p,d⟩:=b.rb;obtain⟨x,y,l⟩:=b.rl;obtain⟨s,u,i⟩:=b.rf;obtain⟨t,v,j⟩:=b.rn;rcases h with ⟨rfl,rfl⟩|⟨K,rfl⟩|⟨rfl,rfl⟩|⟨rfl,rfl⟩|⟨rfl,rfl⟩
 .clear b
  go_enter func31,ntmps31;go_wp2;go_ret;exact⟨rfl,bX⟩
 .rcases K with rfl|⟨n,rfl⟩
  .have f:=rm pb pl o x p y w b.bl d l
   have g:=rm pb pf o s p u w b.bf d i;have m:=rm pb pn o t p v w b.bn d j;clear b d l i j;go_enter func31,ntmps31;go_wp2_with fail;refine f.mono ?_;rintro e k ⟨rfl,a⟩;replace a:=a.symm;subst a;clear f;go_wp2_with fail;refine g.mono ?_;rintro e k ⟨rfl,a⟩;replace a:=a.symm;subst a;clear g;go_wp2_with fail;refine m.mono ?_;rintro e k ⟨rfl,a⟩;replace a:=a.symm;subst a;clear m;go_wp2;go_ret;exact⟨rfl,bX⟩
  .have G:=hZ b
   have f:=Hp n pb pl o x p y w b.ev.bad b.bl d l;clear b d l i j;go_enter func31,ntmps31;go_wp2_with fail;refine f.mono ?_;rintro e k ⟨rfl,B⟩;have q:=G.out.below B;obtain⟨o,p,d⟩:=q.rb;obtain⟨s,u,i⟩:=q.rf;have g:=Hp n pb pf o s p u k q.ev.bad q.bf d i;have F:=hZ q;have z:=hZ B;have D:=q.ev.full;have L:=ag D;clear f B q d i G;go_wp2_with fail;refine g.mono ?_;rintro e O ⟨rfl,C⟩;have r:=F.out.below C;obtain⟨o,p,d⟩:=r.rb;obtain⟨t,v,j⟩:=r.rn;have m:=Hp n pb pn o t p v O r.ev.bad r.bn d j;have A:=hZ (z.out.trans (C.mono z.out.size));have E:=r.ev.none_;have M:=ag E;clear g C r d j F z;go_wp2_with fail;refine m.mono ?_;rintro e Q ⟨rfl,H⟩
   have J:=hZ (A.out.trans (H.mono A.out.size));clear m H A;go_wp2;go_ret;exact⟨rfl,J.out⟩
 .have f:=Ho pl w
  clear b d l i j;go_enter func31,ntmps31;go_wp2_with fail;refine f.mono ?_;rintro e k ⟨rfl,a⟩;replace a:=a.symm;subst a;clear f;go_wp2;go_ret;exact⟨rfl,bX⟩
 .have f:=rm pf pl s x u y w b.lf.symm i l
  have g:=Ho pf w;clear b d l i j;go_enter func31,ntmps31;go_wp2_with fail;refine f.mono ?_;rintro e k ⟨rfl,a⟩;replace a:=a.symm;subst a;clear f;go_wp2_with fail;refine g.mono ?_;rintro e k ⟨rfl,a⟩;replace a:=a.symm;subst a;clear g;go_wp2;go_ret;exact⟨rfl,bX⟩
 .have f:=rm pn pl t x v y w b.ln.symm j l
  have g:=rm pn pf t s v u w b.fn.symm j i;have m:=Ho pn w;clear b d l i j;go_enter func31,ntmps31;go_wp2_with fail;refine f.mono ?_;rintro e k ⟨rfl,a⟩;replace a:=a.symm;subst a;clear f;go_wp2_with fail;refine g.mono ?_;rintro e k ⟨rfl,a⟩;replace a:=a.symm;subst a;clear g;go_wp2_with fail;refine m.mono ?_;rintro e k ⟨rfl,a⟩;replace a:=a.symm;subst a;clear m;go_wp2;go_ret;exact⟨rfl,bX⟩
open Go.RowKit Go.ChangeShapes
theorem a60 {P:Program} {n0 J K L i:String} {x0 x1 x2 x3:List UInt8} {r:List (String × DataW Unit)} {W:World} {n o p q:Nat} {ti g D E:TypeId} {ms:Array (String × TypeId)} {f:Field}
  (h:laidMet P ((n0,.iface i (.ptr (.agg [.lit (.string x0)])))::(J,.iface i (.ptr (.agg [.lit (.string x1)])))::(K,.iface i (.ptr (.agg [.lit (.string x2)])))::(L,.iface i (.ptr (.agg [.lit (.string x3)])))::r) W)
  (V:P.globalNamed n0=some n) (a9:(P.globals[n]?).map (·.type)=some ti) (X:P.globalNamed J=some o) (aa:(P.globals[o]?).map (·.type)=some ti) (Y:P.globalNamed K=some p) (ab:(P.globals[p]?).map (·.type)=some ti) (Z:P.globalNamed L=some q) (ac:(P.globals[q]?).map (·.type)=some ti)
  (hi:P.underlying ti=some (.interface ms)) (m:∀ u,P.typeName? 3 u=some i->u=g)
  (x:P.underlying g=some (.pointer D)) (w:P.underlying D=some (.struct #[f])) (l:f.type=E) (k:f.offset=0) (y:P.underlying E=some .string) (s:P.cellsOf D=1) (j:P.cellsOf E=1) :
  ∃ a0 a b a3:Addr,W.cell? ⟨n,0,none⟩=some (.iface g (.pointer (some a0)))/\W.cell? ⟨o,0,none⟩=some (.iface g (.pointer (some a)))/\W.cell? ⟨p,0,none⟩=some (.iface g (.pointer (some b)))/\W.cell? ⟨q,0,none⟩=some (.iface g (.pointer (some a3))) /\
   (∃ c t,W.heap[a0.block]? = some (.cells c t (0,0)))/\(∃ c t,W.heap[a.block]? = some (.cells c t (0,0)))/\(∃ c t,W.heap[b.block]? = some (.cells c t (0,0)))/\(∃ c t,W.heap[a3.block]? = some (.cells c t (0,0))) /\
   a0≠a/\a0≠b/\a0≠a3/\a≠b/\a≠a3/\b≠a3:=by
 obtain⟨ps,⟨ah,al,M,f0,p0,q0,z,a4,F,R,⟨ai,am,N,f1,p1,q1,A,a5,G,S,⟨aj,an,O,f2,p2,q2,B,a6,H,T,⟨ak,ao,Q,f3,p3,q3,C,a7,I,U,_,e3⟩,e2⟩,e1⟩,e0⟩,a8,d⟩:=h;obtain rfl:=Option.some.inj (V.symm.trans z);obtain rfl:=Option.some.inj (a9.symm.trans a4);obtain rfl:=Option.some.inj (X.symm.trans A);obtain rfl:=Option.some.inj (aa.symm.trans a5);obtain rfl:=Option.some.inj (Y.symm.trans B);obtain rfl:=Option.some.inj (ab.symm.trans a6);obtain rfl:=Option.some.inj (Z.symm.trans C);obtain rfl:=Option.some.inj (ac.symm.trans a7);subst e3;subst e2;subst e1;subst e0;obtain⟨l0⟩:=M;obtain⟨l1⟩:=N;obtain⟨l2⟩:=O;obtain⟨l3⟩:=Q;have ad:∀ u v,l0=[.iface u v]->Value.okWide P W .any 0 u v:=fun u v e=>by
  subst e;exact (d n 0 (by simp[MemPlace.row])).2 u v (by simpa using World.var?_cell z F 0)
 have ae:∀ u v,l1=[.iface u v]->Value.okWide P W .any 0 u v:=fun u v e=>by
  subst e;exact (d o 0 (by simp[MemPlace.row])).2 u v (by simpa using World.var?_cell A G 0)
 have af:∀ u v,l2=[.iface u v]->Value.okWide P W .any 0 u v:=fun u v e=>by
  subst e;exact (d p 0 (by simp[MemPlace.row])).2 u v (by simpa using World.var?_cell B H 0)
 have ag:∀ u v,l3=[.iface u v]->Value.okWide P W .any 0 u v:=fun u v e=>by
  subst e;exact (d q 0 (by simp[MemPlace.row])).2 u v (by simpa using World.var?_cell C I 0)
 obtain⟨a0,s0,rfl,_,_,_,rfl⟩:=errorString_of_trod hi m x w l k y s j R ad;obtain⟨a,s1,rfl,_,_,_,rfl⟩:=errorString_of_trod hi m x w l k y s j S ae;obtain⟨b,s2,rfl,_,_,_,rfl⟩:=errorString_of_trod hi m x w l k y s j T af;obtain⟨a3,s3,rfl,_,_,_,rfl⟩:=errorString_of_trod hi m x w l k y s j U ag;have b0:=(d a0.block a0.off (by simp[MemPlace.row])).1;have b1:=(d a.block a.off (by simp[MemPlace.row])).1;have b2:=(d b.block b.off (by simp[MemPlace.row])).1;have b3:=(d a3.block a3.off (by simp[MemPlace.row])).1;refine⟨a0,a,b,a3,by simpa using World.var?_cell z F 0,by simpa using World.var?_cell A G 0,by simpa using World.var?_cell B H 0,by simpa using World.var?_cell C I 0,b0,b1,b2,b3,?_,?_,?_,?_,?_,?_⟩;all_goals (rintro rfl;simp[MemPlace.row]at a8)
end Go.Proofs.YtjbmgghehdemdaaGreatDoor
