/- IDisk7 -/
import Derived.Test.YtjbmgghehdemdaaGreatDoorMS32
namespace Go.Proofs.YtjbmgghehdemdaaGreatDoor
set_option maxRecDepth 100000
set_option maxHeartbeats 16000000
open _root_.Go.Proofs.Tryz
open Go.RowKit
theorem qd {w:World} {B:Nat} {v:Value} {es:List Ent}(h:ac w B v es):∃ a c,v=.slice a es.length c:=by
 rcases h.form with ⟨rfl,b⟩|⟨_,_,rfl,_,_,_,_⟩
 .rw[b];exact⟨_,_,rfl⟩
 .exact⟨_,_,rfl⟩
def ya:Prop:=∀ {w:World} {B:Nat} {vd:Value} {d:Ds7} {ty:TypeId} {pv:Value} {pb pl pf pn:Addr},Dk7 w B vd d->ql w ty pv pb pl pf pn ->
 Calls prog 38 #[.agg #[.string d.r,vd,.string d.log,.int .i64 d.syn]] w fun e w'=>OpQ w (fb d) d pb e w'
theorem Zu (u:World):jz (u.alloc (.cells #[.slice none 0 0,.bool false,.int .i64 0,.string ⟨#[]⟩,.slice none 0 0,.string ⟨#[]⟩,.int .i64 0,.slice none 0 0] 71)) u.heap.size (.slice none 0 0) false 0 ⟨#[]⟩ (.slice none 0 0) ⟨#[]⟩ 0 (.slice none 0 0):=heap_alloc_new u _
theorem zd (hO:ya){w:World} {B:Nat} {vd:Value} {d:Ds7} {ty:TypeId} {pv:Value} {pb pl pf pn:Addr}(s:Dk7 w B vd d) (C:ql w ty pv pb pl pf pn) :
  Calls prog 29 #[.agg #[.string d.r,vd,.string d.log,.int .i64 d.syn]] w fun e w'=>OpQ w (ch d) d pb e w':=by
 obtain⟨i,j,am⟩:=s.form;subst am;obtain⟨W0,a⟩:∃ W0,W0=(w.alloc (.cells #[.string d.r,.slice i d.ss.length j,.string d.log,.int .i64 d.syn] 25)).alloc (.cells #[.slice none 0 0,.bool false,.int .i64 0,.string ⟨#[]⟩,.slice none 0 0,.string ⟨#[]⟩,.int .i64 0,.slice none 0 0] 71):=⟨_,rfl⟩
 have c:Below w.heap.size w W0:=by rw[a];exact (bY _).alloc (by simp) _
 have m:Hd7 w W0 d.r (.slice i d.ss.length j) d.log d.syn:=by
  refine⟨?_,?_,c⟩
  .show _=_
   rw[a,Below.heap_alloc _ _ _ (by simp)];exact heap_alloc_new w _
  .have h:=Zu (w.alloc (.cells #[.string d.r,.slice i d.ss.length j,.string d.log,.int .i64 d.syn] 25))
   rw[World.size_alloc]at h;rw[a];exact h
 have g:=hO (s.below c) (C.below c);have N:=(C.below c).errs.bad;have a8:=ag N;have aq:=s.ok.log;have au:W0.heap.size=w.heap.size+2:=by rw[a];simp
 have u:=hZ m;have f:Hid (W0=(w.alloc (.cells #[.string d.r,.slice i d.ss.length j,.string d.log,.int .i64 d.syn] 25)).alloc (.cells #[.slice none 0 0,.bool false,.int .i64 0,.string ⟨#[]⟩,.slice none 0 0,.string ⟨#[]⟩,.int .i64 0,.slice none 0 0] 71)):=a;obtain⟨O,Z,d1,d2,d3,df⟩:=m.disk.facts;obtain⟨M,Q,R,S,T,U,V,W,X,Y⟩:=m.ans.facts;by_cases t:0<=d.syn/\d.syn<=(d.log.size:Int)
 .have aj:¬ d.syn<0:=by omega
  have ak:¬ (d.log.size:Int)<d.syn:=by omega
  rw[a91 t];obtain⟨o,ho⟩:∃ o,o=fb d:=⟨_,rfl⟩
  rw[<- ho]at g ⊢;clear s C a c m t ho N a8
  cases o with
  | none =>
   have k:Calls prog 38 #[.agg #[.string d.r,.slice i d.ss.length j,.string d.log,.int .i64 d.syn]] W0 fun e w'=>(∃ q,e=.returned (.tuple #[zIx,q])/\Bw pb q)/\Below W0.heap.size W0 w':=g
   clear g;go_enter func29,ntmps29;go_wp2_with fail;rw[<- f.out];go_wp2_with fail;refine k.mono ?_;rintro e w1 ⟨⟨q,rfl,P⟩,n⟩;have b:=hZ (u.out.below n);obtain⟨M,Q,R,S,T,U,V,W,X,Y⟩:=b.out.ans.facts;have F:Hid (Below _ _ _):=tr (p:=w.heap.size+1) b.out.bel (by omega) (.slice none 0 0) (.bool false) (.int .i64 0) (.string ⟨#[]⟩) (.slice none 0 0) (.string ⟨#[]⟩) (.int .i64 0) (.slice none 0 0);have a9:=hZ P;clear k n f P Z d1 d2 d3 df O;unfold zIx;go_wp2;refine bodyPost_ret (v:=.tuple #[zIx,q]) ?_ rfl ⟨⟨q,rfl,a9.out⟩,F.out⟩;rw[results_cell_tmp rfl];go_simp;rfl
  | some l =>
   have k:Calls prog 38 #[.agg #[.string d.r,.slice i d.ss.length j,.string d.log,.int .i64 d.syn]] W0 fun e w'=>(∃ J K L,e=.returned (.tuple #[ixV J (ab d.r) d.r K d.log d.syn L,.nilIface])/\ac w' W0.heap.size J (ab d.r).es/\ah w' W0.heap.size K d.ss/\Rws w' W0.heap.size L l)/\Below W0.heap.size W0 w':=g
   clear g;go_enter func29,ntmps29;go_wp2_with fail;rw[<- f.out];go_wp2_with fail;refine k.mono ?_;rintro e w1 ⟨⟨J,K,L,rfl,G,H,I⟩,n⟩;obtain⟨D,E,al⟩:=qd G;subst al;obtain⟨x,z,an,_⟩:=gz H;subst an;obtain⟨y,A,ao⟩:=db I;subst ao;have b:=hZ (u.out.below n);obtain⟨M,Q,R,S,T,U,V,W,X,Y⟩:=b.out.ans.facts;have F:Hid (Below _ _ _):=tr (p:=w.heap.size+1) b.out.bel (by omega) (.slice D (ab d.r).es.length E) (.bool (ab d.r).sh) (.int .i64 (ab d.r).lv) (.string d.r) (.slice x d.ss.length z) (.string d.log) (.int .i64 d.syn) (.slice y l.length A)
   obtain⟨k1,k2,k3⟩:=bf7 (ac.low G (show w.heap.size<=W0.heap.size by omega)) (ji H (show w.heap.size<=W0.heap.size by omega)) (ff I (show w.heap.size<=W0.heap.size by omega)) b.out.ans (.slice D (ab d.r).es.length E) (.bool (ab d.r).sh) (.int .i64 (ab d.r).lv) (.string d.r) (.slice x d.ss.length z) (.string d.log) (.int .i64 d.syn) (.slice y l.length A);have aa:Hid (ac _ _ _ _):=k1;have ae:Hid (ah _ _ _ _):=k2;have ai:Hid (Rws _ _ _ _):=k3;clear k n f G H I k1 k2 k3 Z d1 d2 d3 df O;unfold ixV;go_wp2;refine bodyPost_ret (v:=.tuple #[ixV (.slice D (ab d.r).es.length E) (ab d.r) d.r (.slice x d.ss.length z) d.log d.syn (.slice y l.length A),.nilIface]) ?_ rfl ⟨⟨(.slice D (ab d.r).es.length E),(.slice x d.ss.length z),(.slice y l.length A),rfl,aa.out,ae.out,ai.out⟩,F.out⟩;rw[results_cell_tmp rfl];go_simp;rfl
 .rw[an1 t]
  clear g s C a c m;by_cases aj:d.syn<0
  .clear t
   go_enter func29,ntmps29;go_wp2_with fail;rw[<- f.out];go_upto_region 2 with fail
   go_region
   all_goals
    go_wp2;refine bodyPost_ret (v:=.tuple #[zIx,.iface 298 (.pointer (some pb))]) ?_ rfl ⟨?_,?_⟩
    .rw[results_cell_tmp rfl]
     go_simp;rfl
    .exact⟨_,rfl,.inl rfl⟩
    .repeat (first|with_reducible exact u.out.bel|with_reducible refine Below.drew ?_|with_reducible refine Below.setCell ?_ (by show w.heap.size<=w.heap.size+1;omega) _)
  .have ak:(d.log.size:Int)<d.syn:=by omega
   clear t;go_enter func29,ntmps29;go_wp2_with fail;rw[<- f.out];go_upto_region 2 with fail
   go_region
   all_goals
    go_wp2;refine bodyPost_ret (v:=.tuple #[zIx,.iface 298 (.pointer (some pb))]) ?_ rfl ⟨?_,?_⟩
    .rw[results_cell_tmp rfl]
     go_simp;rfl
    .exact⟨_,rfl,.inl rfl⟩
    .repeat (first|with_reducible exact u.out.bel|with_reducible refine Below.drew ?_|with_reducible refine Below.setCell ?_ (by show w.heap.size<=w.heap.size+1;omega) _)
theorem Xs (L:ya){w:World} {B:Nat} {C:Value} {d:Ds7} {ty:TypeId} {pv:Value} {pb pl pf pn:Addr}(q:Dk7 w B C d) (z:ql w ty pv pb pl pf pn) :
  Calls prog 9 #[.agg #[.string d.r,C,.string d.log,.int .i64 d.syn]] w fun e w'=>∃ v,e=.returned (.tuple #[v,.bool (fb d).isSome])/\Rws w' w.heap.size v ((fb d).getD [])/\Below w.heap.size w w':=by
 obtain⟨a,b,G⟩:=q.form;subst G;have j:Below w.heap.size w (w.alloc (.cells #[.string d.r,.slice a d.ss.length b,.string d.log,.int .i64 d.syn] 25)):=bY _;have h:=L (q.below j) (z.below j);have f:=hZ j;obtain⟨o,A⟩:∃ o,o=fb d:=⟨_,rfl⟩
 rw[<- A]at h ⊢;clear q z j A
 cases o with
 | none =>
  have g:Calls prog 38 #[.agg #[.string d.r,.slice a d.ss.length b,.string d.log,.int .i64 d.syn]] (w.alloc (.cells #[.string d.r,.slice a d.ss.length b,.string d.log,.int .i64 d.syn] 25)) fun e w'=>(∃ n,e=.returned (.tuple #[zIx,n])/\Bw pb n)/\Below (w.alloc (.cells #[.string d.r,.slice a d.ss.length b,.string d.log,.int .i64 d.syn] 25)).heap.size (w.alloc (.cells #[.string d.r,.slice a d.ss.length b,.string d.log,.int .i64 d.syn] 25)) w':=h
  clear h;go_enter func9,ntmps9;go_wp2_with fail;refine g.mono ?_;rintro e k ⟨⟨n,rfl,E⟩,i⟩;have c:=f.out.trans (i.mono f.out.size);have m:Hid (∀ o,Below w.heap.size w (k.alloc o)):=fun o=>c.alloc c.size o
  unfold zIx;clear g i c;rcases E with rfl|⟨O,rfl⟩;all_goals
   go_wp2;go_ret2;exact⟨_,rfl,World.ownsRow_nil _ _ _ _,m.out _⟩
 | some l =>
  have g:Calls prog 38 #[.agg #[.string d.r,.slice a d.ss.length b,.string d.log,.int .i64 d.syn]] (w.alloc (.cells #[.string d.r,.slice a d.ss.length b,.string d.log,.int .i64 d.syn] 25)) fun e w'=>(∃ s t u,e=.returned (.tuple #[ixV s (ab d.r) d.r t d.log d.syn u,.nilIface])/\ac w' (w.alloc (.cells #[.string d.r,.slice a d.ss.length b,.string d.log,.int .i64 d.syn] 25)).heap.size s (ab d.r).es/\ah w' (w.alloc (.cells #[.string d.r,.slice a d.ss.length b,.string d.log,.int .i64 d.syn] 25)).heap.size t d.ss/\Rws w' (w.alloc (.cells #[.string d.r,.slice a d.ss.length b,.string d.log,.int .i64 d.syn] 25)).heap.size u l)/\Below (w.alloc (.cells #[.string d.r,.slice a d.ss.length b,.string d.log,.int .i64 d.syn] 25)).heap.size (w.alloc (.cells #[.string d.r,.slice a d.ss.length b,.string d.log,.int .i64 d.syn] 25)) w':=h
  clear h;go_enter func9,ntmps9;go_wp2_with fail;refine g.mono ?_;rintro e k ⟨⟨s,t,u,rfl,x,y,p⟩,i⟩;obtain⟨P,Q,F⟩:=qd x;subst F;obtain⟨M,N,H,_⟩:=gz y;subst H;obtain⟨J,K,I⟩:=db p;subst I;have c:=f.out.trans (i.mono f.out.size);have m:Hid (∀ o,Below w.heap.size w (k.alloc o)):=fun o=>c.alloc c.size o
  have D:Hid (∀ o,Rws (k.alloc o) w.heap.size (.slice J l.length K) l):=fun o=>(ff p f.out.size).below (bY o)
  unfold ixV;clear g i c x y p;go_wp2;go_ret2;exact⟨_,rfl,D.out _,m.out _⟩
theorem a56 (H:ya){w:World} {B:Nat} {A:Value} {d:Ds7} {ty:TypeId} {pv:Value} {pb pl pf pn:Addr}(n:Dk7 w B A d) (y:ql w ty pv pb pl pf pn) :
  Calls prog 10 #[.agg #[.string d.r,A,.string d.log,.int .i64 d.syn]] w fun e w'=>e=.returned (.bool (ch d).isSome)/\Below w.heap.size w w':=by
 obtain⟨a,b,E⟩:=n.form;subst E;have j:Below w.heap.size w (w.alloc (.cells #[.string d.r,.slice a d.ss.length b,.string d.log,.int .i64 d.syn] 25)):=bY _;have g:=zd H (n.below j) (y.below j);have i:=hZ j;obtain⟨o,z⟩:∃ o,o=ch d:=⟨_,rfl⟩
 rw[<- z]at g ⊢;clear n y j z
 cases o with
 | none =>
  have f:Calls prog 29 #[.agg #[.string d.r,.slice a d.ss.length b,.string d.log,.int .i64 d.syn]] (w.alloc (.cells #[.string d.r,.slice a d.ss.length b,.string d.log,.int .i64 d.syn] 25)) fun e w'=>(∃ m,e=.returned (.tuple #[zIx,m])/\Bw pb m)/\Below (w.alloc (.cells #[.string d.r,.slice a d.ss.length b,.string d.log,.int .i64 d.syn] 25)).heap.size (w.alloc (.cells #[.string d.r,.slice a d.ss.length b,.string d.log,.int .i64 d.syn] 25)) w':=g
  clear g;go_enter func10,ntmps10;go_wp2_with fail;refine f.mono ?_;rintro e t ⟨⟨m,rfl,C⟩,h⟩;have c:=i.out.trans (h.mono i.out.size);have k:Hid (∀ o,Below w.heap.size w (t.alloc o)):=fun o=>c.alloc c.size o
  unfold zIx;clear f h c;rcases C with rfl|⟨M,rfl⟩;all_goals
   go_wp2;go_ret;exact⟨rfl,k.out _⟩
 | some l =>
  have f:Calls prog 29 #[.agg #[.string d.r,.slice a d.ss.length b,.string d.log,.int .i64 d.syn]] (w.alloc (.cells #[.string d.r,.slice a d.ss.length b,.string d.log,.int .i64 d.syn] 25)) fun e w'=>(∃ p q s,e=.returned (.tuple #[ixV p (ab d.r) d.r q d.log d.syn s,.nilIface])/\ac w' (w.alloc (.cells #[.string d.r,.slice a d.ss.length b,.string d.log,.int .i64 d.syn] 25)).heap.size p (ab d.r).es/\ah w' (w.alloc (.cells #[.string d.r,.slice a d.ss.length b,.string d.log,.int .i64 d.syn] 25)).heap.size q d.ss/\Rws w' (w.alloc (.cells #[.string d.r,.slice a d.ss.length b,.string d.log,.int .i64 d.syn] 25)).heap.size s l)/\Below (w.alloc (.cells #[.string d.r,.slice a d.ss.length b,.string d.log,.int .i64 d.syn] 25)).heap.size (w.alloc (.cells #[.string d.r,.slice a d.ss.length b,.string d.log,.int .i64 d.syn] 25)) w':=g
  clear g;go_enter func10,ntmps10;go_wp2_with fail;refine f.mono ?_;rintro e t ⟨⟨p,q,s,rfl,u,v,x⟩,h⟩;obtain⟨N,O,D⟩:=qd u;subst D;obtain⟨I,K,F,_⟩:=gz v;subst F;obtain⟨J,L,G⟩:=db x;subst G;have c:=i.out.trans (h.mono i.out.size);have k:Hid (∀ o,Below w.heap.size w (t.alloc o)):=fun o=>c.alloc c.size o
  unfold ixV;clear f h c u v x;go_wp2;go_ret;exact⟨rfl,k.out _⟩
end Go.Proofs.YtjbmgghehdemdaaGreatDoor
