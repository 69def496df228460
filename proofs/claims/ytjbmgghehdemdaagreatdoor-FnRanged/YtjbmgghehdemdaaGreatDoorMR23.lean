/- BlkC -/
import Derived.Test.YtjbmgghehdemdaaGreatDoorMR2
import Derived.OwnWalk
import Derived.ProofKit
namespace Go.Proofs.YtjbmgghehdemdaaGreatDoor
set_option maxRecDepth 100000
set_option maxHeartbeats 16000000
open _root_.Go.Proofs.Tryz
open Go.RowKit
theorem ac.slice {w:World} {B:Nat} {v:Value} {es:List Ent}(h:ac w B v es):∃ a n c,v=.slice a n c:=by
 rcases h.form with ⟨rfl,_⟩|⟨_,_,rfl,_,_,_,_⟩
 .exact⟨_,_,_,rfl⟩
 .exact⟨_,_,_,rfl⟩
def Ff (w:World) (a:Option Addr) (n:Nat):Prop :=
 n=0\/∃ cb off,a=some ⟨cb,off,none⟩/\cb<w.heap.size/\∀ j,j<n->∃ x:Int,0<=x/\x<=255/\w.cell? ⟨cb,off+j,none⟩=some (.int .u8 x)
theorem Ff.below {w w':World} {a:Option Addr} {n:Nat}(h:Ff w a n) (e:Below w.heap.size w w'):Ff w' a n:=by
 rcases h with h|⟨c,b,rfl,d,f⟩
 .exact .inl h
 .refine .inr ⟨c,b,rfl,Nat.lt_of_lt_of_le d e.size,fun j hj=>?_⟩
  obtain⟨x,i,k,g⟩:=f j hj;exact⟨x,i,k,by rw[e.cell (p:=⟨c,b+j,none⟩) d];exact g⟩
theorem am1 (w:World) (a:Option Addr) (n cap:Nat) (f:n<=1048576) (h:Ff w a n) :
  Cur (w.alloc (.cells #[.slice a n cap,.int .i64 0,.int .u64 0] 67)) (w.heap.size+1) w.heap.size 0:=by
 refine⟨a,n,cap,0,heap_alloc_new w _,by omega,by simp,f,by omega,by omega,?_⟩;rcases h with h|⟨c,b,rfl,d,e⟩
 .exact .inl h
 .refine .inr ⟨c,b,rfl,by omega,by omega,fun j hj=>?_⟩
  obtain⟨x,i,k,g⟩:=e j hj;exact⟨x,i,k,(World.cell?_of_block (w:=w) (a:=⟨c,b+j,none⟩) (Below.heap_alloc _ _ _ d)).trans g⟩
open Go.ChangeShapes Go.WideShapes Go.ChangeAt Go.WideMaps Go.WideElems Go.RowKit
theorem am0 {w:World} {a:Option Addr} {len cap:Nat} {zs:List Int}(h:Tm .u8 w a len cap zs):Ff w a len:=by
 rcases h with ⟨rfl,rfl,rfl,rfl⟩|⟨x,rfl,p,o,r,e,g⟩
 .exact .inl rfl
 .by_cases k:len=0
  .exact .inl k
  .obtain⟨b,i,rfl,c⟩:=ints_at e (by omega)
   have f:b<w.heap.size:=by
    have l:=c 0 (by omega);apply Classical.byContradiction
    intro q;have:w.heap[b]? = none:=by simp;omega
    simp[World.cell?,this]at l
   refine .inr ⟨b,i,rfl,f,fun j hj=>?_⟩;have m:zs.getD j 0 ∈ zs:=by
    rw[List.getD_eq_getElem?_getD,List.getElem?_eq_getElem (show j<zs.length by omega)];exact List.getElem_mem _
   have n:=g _ m;have d:0<=zs.getD j 0/\zs.getD j 0<=255:=by simpa [Lit.wf,IntKind.min,IntKind.max,IntKind.signed,IntKind.bits] using n
   exact⟨_,d.1,d.2,c j (by omega)⟩
end Go.Proofs.YtjbmgghehdemdaaGreatDoor
