/- ICk7 -/
import Derived.Test.YtjbmgghehdemdaaGreatDoorMP32
namespace Go.Proofs.YtjbmgghehdemdaaGreatDoor
set_option maxRecDepth 100000
set_option maxHeartbeats 16000000
open _root_.Go.Proofs.Tryz
open Go.RowKit
theorem Xr (L:xx){w:World} {B:Nat} {C:Value} {d:Ds7} {ty:TypeId} {pv:Value} {pb pl pf pn:Addr}(q:Dk7 w B C d) (z:qd w ty pv pb pl pf pn) :
  Calls prog 9 #[.agg #[.string d.r,C,.string d.log,.int .i64 d.syn]] w fun e w'=>∃ v,e=.returned (.tuple #[v,.bool (du d).isSome])/\Rws w' w.heap.size v ((du d).getD [])/\Below w.heap.size w w':=by
 obtain⟨a,b,G⟩:=q.form;subst G;have j:Below w.heap.size w (w.alloc (.cells #[.string d.r,.slice a d.ss.length b,.string d.log,.int .i64 d.syn] 25)):=bY _;have h:=L (q.below j) (z.below j);have f:=hZ j;obtain⟨o,A⟩:∃ o,o=du d:=⟨_,rfl⟩
 rw[<- A]at h ⊢;clear q z j A
 cases o with
 | none =>
  have g:Calls prog 38 #[.agg #[.string d.r,.slice a d.ss.length b,.string d.log,.int .i64 d.syn]] (w.alloc (.cells #[.string d.r,.slice a d.ss.length b,.string d.log,.int .i64 d.syn] 25)) fun e w'=>(∃ n,e=.returned (.tuple #[zIx,n])/\Bk pb n)/\Below (w.alloc (.cells #[.string d.r,.slice a d.ss.length b,.string d.log,.int .i64 d.syn] 25)).heap.size (w.alloc (.cells #[.string d.r,.slice a d.ss.length b,.string d.log,.int .i64 d.syn] 25)) w':=h
  clear h;go_enter func9,ntmps9;go_wp2_with fail;refine g.mono ?_;rintro e k ⟨⟨n,rfl,E⟩,i⟩;have c:=f.out.trans (i.mono f.out.size);have m:Hid (∀ o,Below w.heap.size w (k.alloc o)):=fun o=>c.alloc c.size o
  unfold zIx;clear g i c;rcases E with rfl|⟨O,rfl⟩;all_goals
   go_wp2;go_ret2;exact⟨_,rfl,World.ownsRow_nil _ _ _ _,m.out _⟩
 | some l =>
  have g:Calls prog 38 #[.agg #[.string d.r,.slice a d.ss.length b,.string d.log,.int .i64 d.syn]] (w.alloc (.cells #[.string d.r,.slice a d.ss.length b,.string d.log,.int .i64 d.syn] 25)) fun e w'=>(∃ s t u,e=.returned (.tuple #[ixV s (ab d.r) d.r t d.log d.syn u,.nilIface])/\ac w' (w.alloc (.cells #[.string d.r,.slice a d.ss.length b,.string d.log,.int .i64 d.syn] 25)).heap.size s (ab d.r).es/\aj w' (w.alloc (.cells #[.string d.r,.slice a d.ss.length b,.string d.log,.int .i64 d.syn] 25)).heap.size t d.ss/\Rws w' (w.alloc (.cells #[.string d.r,.slice a d.ss.length b,.string d.log,.int .i64 d.syn] 25)).heap.size u l)/\Below (w.alloc (.cells #[.string d.r,.slice a d.ss.length b,.string d.log,.int .i64 d.syn] 25)).heap.size (w.alloc (.cells #[.string d.r,.slice a d.ss.length b,.string d.log,.int .i64 d.syn] 25)) w':=h
  clear h;go_enter func9,ntmps9;go_wp2_with fail;refine g.mono ?_;rintro e k ⟨⟨s,t,u,rfl,x,y,p⟩,i⟩;obtain⟨P,Q,F⟩:=sd x;subst F;obtain⟨M,N,H,_⟩:=iw y;subst H;obtain⟨J,K,I⟩:=cz p;subst I;have c:=f.out.trans (i.mono f.out.size);have m:Hid (∀ o,Below w.heap.size w (k.alloc o)):=fun o=>c.alloc c.size o
  have D:Hid (∀ o,Rws (k.alloc o) w.heap.size (.slice J l.length K) l):=fun o=>(eu p f.out.size).below (bY o)
  unfold ixV;clear g i c x y p;go_wp2;go_ret2;exact⟨_,rfl,D.out _,m.out _⟩
theorem a40 (H:xx){w:World} {B:Nat} {A:Value} {d:Ds7} {ty:TypeId} {pv:Value} {pb pl pf pn:Addr}(n:Dk7 w B A d) (y:qd w ty pv pb pl pf pn) :
  Calls prog 10 #[.agg #[.string d.r,A,.string d.log,.int .i64 d.syn]] w fun e w'=>e=.returned (.bool (dz d).isSome)/\Below w.heap.size w w':=by
 obtain⟨a,b,E⟩:=n.form;subst E;have j:Below w.heap.size w (w.alloc (.cells #[.string d.r,.slice a d.ss.length b,.string d.log,.int .i64 d.syn] 25)):=bY _;have g:=yx H (n.below j) (y.below j);have i:=hZ j;obtain⟨o,z⟩:∃ o,o=dz d:=⟨_,rfl⟩
 rw[<- z]at g ⊢;clear n y j z
 cases o with
 | none =>
  have f:Calls prog 29 #[.agg #[.string d.r,.slice a d.ss.length b,.string d.log,.int .i64 d.syn]] (w.alloc (.cells #[.string d.r,.slice a d.ss.length b,.string d.log,.int .i64 d.syn] 25)) fun e w'=>(∃ m,e=.returned (.tuple #[zIx,m])/\Bk pb m)/\Below (w.alloc (.cells #[.string d.r,.slice a d.ss.length b,.string d.log,.int .i64 d.syn] 25)).heap.size (w.alloc (.cells #[.string d.r,.slice a d.ss.length b,.string d.log,.int .i64 d.syn] 25)) w':=g
  clear g;go_enter func10,ntmps10;go_wp2_with fail;refine f.mono ?_;rintro e t ⟨⟨m,rfl,C⟩,h⟩;have c:=i.out.trans (h.mono i.out.size);have k:Hid (∀ o,Below w.heap.size w (t.alloc o)):=fun o=>c.alloc c.size o
  unfold zIx;clear f h c;rcases C with rfl|⟨M,rfl⟩;all_goals
   go_wp2;go_ret;exact⟨rfl,k.out _⟩
 | some l =>
  have f:Calls prog 29 #[.agg #[.string d.r,.slice a d.ss.length b,.string d.log,.int .i64 d.syn]] (w.alloc (.cells #[.string d.r,.slice a d.ss.length b,.string d.log,.int .i64 d.syn] 25)) fun e w'=>(∃ p q s,e=.returned (.tuple #[ixV p (ab d.r) d.r q d.log d.syn s,.nilIface])/\ac w' (w.alloc (.cells #[.string d.r,.slice a d.ss.length b,.string d.log,.int .i64 d.syn] 25)).heap.size p (ab d.r).es/\aj w' (w.alloc (.cells #[.string d.r,.slice a d.ss.length b,.string d.log,.int .i64 d.syn] 25)).heap.size q d.ss/\Rws w' (w.alloc (.cells #[.string d.r,.slice a d.ss.length b,.string d.log,.int .i64 d.syn] 25)).heap.size s l)/\Below (w.alloc (.cells #[.string d.r,.slice a d.ss.length b,.string d.log,.int .i64 d.syn] 25)).heap.size (w.alloc (.cells #[.string d.r,.slice a d.ss.length b,.string d.log,.int .i64 d.syn] 25)) w':=g
  clear g;go_enter func10,ntmps10;go_wp2_with fail;refine f.mono ?_;rintro e t ⟨⟨p,q,s,rfl,u,v,x⟩,h⟩;obtain⟨N,O,D⟩:=sd u;subst D;obtain⟨I,K,F,_⟩:=iw v;subst F;obtain⟨J,L,G⟩:=cz x;subst G;have c:=i.out.trans (h.mono i.out.size);have k:Hid (∀ o,Below w.heap.size w (t.alloc o)):=fun o=>c.alloc c.size o
  unfold ixV;clear f h c u v x;go_wp2;go_ret;exact⟨rfl,k.out _⟩
end Go.Proofs.YtjbmgghehdemdaaGreatDoor
